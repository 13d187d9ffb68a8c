/- Notes of a book. -/
import Derived.Test.YtnpinkbbkhllaaaGreatDoorDn1
import Derived.Lib.SliceRun
import Derived.OwnWalk
import Derived.Deep.RegionHeld3
import Derived.Deep.DrawnRows
import Derived.Deep.DeepCutAuto
import Derived.Room.AppendStr
import Derived.Test.YtnpinkbbkhllaaaGreatDoorChecked
import Derived.WalkKit
import Derived.ProofKit
import Derived.OpenShut
import Derived.WalkSpells
import Derived.WalkLawsBesides
import Derived.Lib.Hide
import Derived.IntWalk
import Derived.Outline
import Derived.Deep.QuietTactic
import Derived.BigQuiet
import Derived.Deep.Slices
set_option linter.unusedSimpArgs false
set_option linter.unusedVariables false
set_option maxRecDepth 100000
set_option maxHeartbeats 16000000
namespace Go.Proofs.YtnpinkbbkhllaaaGreatDoor
open Go.ChangeShapes Go.WideShapes Go.ChangeAt Go.RowKit
attribute [local go_sem ↓] Go.wp_at_zero Go.wp_at_succ
def ntIt (n : Nt) : It := ⟨n.id, n.nm⟩
def ofBook (s : Sf) (x : Int) : List Nt := s.ts.filter fun n => n.bk == x
theorem filter_yes {α : Type} {p : α → Bool} {l : List α} {k : Nat} {x : α} (h : l[k]? = some x) (hp : p x = true) : (l.take (k + 1)).filter p = (l.take k).filter p ++ [x] := by
  rw [List.take_add_one, h, List.filter_append]
  simp [hp]
theorem filter_no {α : Type} {p : α → Bool} {l : List α} {k : Nat} {x : α} (h : l[k]? = some x) (hp : p x = false) : (l.take (k + 1)).filter p = (l.take k).filter p := by
  rw [List.take_add_one, h, List.filter_append]
  simp [hp]
end Go.Proofs.YtnpinkbbkhllaaaGreatDoor
namespace Go.Proofs.YtnpinkbbkhllaaaGreatDoor
open Go.ChangeShapes Go.WideShapes Go.ChangeAt Go.RowKit
attribute [local go_sem ↓] Go.wp_at_zero Go.wp_at_succ
theorem books_all {s : Sf} : ∀ (l : List Bk) (bf : Int), booksFrom s bf l = true → (∀ b ∈ l, bf < b.id ∧ b.id ≤ s.nb - 1 ∧ mayN b.nm = true ∧ bookTk s b.nm b.id = false) ∧ l.Pairwise fun a b => a.id < b.id
  | [], _, _ => ⟨fun b hb => by simp at hb, List.Pairwise.nil⟩
  | x :: l, bf, h => by
    have h' : (inI x.id (bf + 1) (s.nb - 1) && (mayN x.nm && (!bookTk s x.nm x.id && booksFrom s x.id l))) = true := h
    simp only [Bool.and_eq_true, Bool.not_eq_true'] at h'
    obtain ⟨h1, h2, h3, h4⟩ := h'
    have hb := inI_bd h1
    obtain ⟨i1, i2⟩ := books_all l x.id h4
    refine ⟨fun b hm => ?_, List.Pairwise.cons (fun b hm => (i1 b hm).1) i2⟩
    rcases List.mem_cons.1 hm with rfl | hm
    · exact ⟨by omega, hb.2, h2, h3⟩
    · have := i1 b hm
      exact ⟨by omega, this.2⟩
theorem notes_all {s : Sf} : ∀ (l : List Nt) (bf : Int), notesFrom s bf l = true → (∀ b ∈ l, bf < b.id ∧ b.id ≤ s.nn - 1 ∧ mayNt s b = true) ∧ l.Pairwise fun a b => a.id < b.id
  | [], _, _ => ⟨fun b hb => by simp at hb, List.Pairwise.nil⟩
  | x :: l, bf, h => by
    have h' : (inI x.id (bf + 1) (s.nn - 1) && (mayNt s x && notesFrom s x.id l)) = true := h
    simp only [Bool.and_eq_true] at h'
    obtain ⟨h1, h2, h4⟩ := h'
    have hb := inI_bd h1
    obtain ⟨i1, i2⟩ := notes_all l x.id h4
    refine ⟨fun b hm => ?_, List.Pairwise.cons (fun b hm => (i1 b hm).1) i2⟩
    rcases List.mem_cons.1 hm with rfl | hm
    · exact ⟨by omega, hb.2, h2⟩
    · have := i1 b hm
      exact ⟨by omega, this.2⟩
structure MayF (s : Sf) : Prop where
  nb : 1 ≤ s.nb ∧ s.nb ≤ 65536
  nn : 1 ≤ s.nn ∧ s.nn ≤ 65536
  ns : 1 ≤ s.ns ∧ s.ns ≤ 4096
  bl : s.bs.length ≤ 6
  tl : s.ts.length ≤ 12
  bs : ∀ b ∈ s.bs, 0 < b.id ∧ b.id ≤ s.nb - 1 ∧ mayN b.nm = true ∧ bookTk s b.nm b.id = false
  bo : s.bs.Pairwise fun a b => a.id < b.id
  ts : ∀ n ∈ s.ts, 0 < n.id ∧ n.id ≤ s.nn - 1 ∧ mayNt s n = true
  tord : s.ts.Pairwise fun a b => a.id < b.id
  sh : sheetsFrom s.ns [] s.ts = true
theorem mayF_of {s : Sf} (h : mayS s = true) : MayF s := by
  unfold mayS at h
  simp only [Bool.and_eq_true, decide_eq_true_eq] at h
  obtain ⟨h1, h2, h3, ⟨h4, h5⟩, ⟨h6, h7⟩, h8⟩ := h
  exact ⟨inI_bd h1, inI_bd h2, inI_bd h3, h4, h6, (books_all _ _ h5).1, (books_all _ _ h5).2, (notes_all _ _ h7).1, (notes_all _ _ h7).2, h8⟩
theorem MayF.names {s : Sf} (h : MayF s) {a b : Bk} (ha : a ∈ s.bs) (hb : b ∈ s.bs) (he : a.nm.toList = b.nm.toList) : a.id = b.id := by
  have := (h.bs b hb).2.2.2
  unfold bookTk at this
  rw [List.any_eq_false] at this
  have h2 := this a ha
  simpa [sameS, he] using h2
theorem MayF.book {s : Sf} (h : MayF s) {n : Nt} (hn : n ∈ s.ts) : 0 ≤ bookAt s n.bk := by
  have := (h.ts n hn).2.2
  unfold mayNt at this
  simp only [Bool.and_eq_true, decide_eq_true_eq] at this
  exact this.2.1
end Go.Proofs.YtnpinkbbkhllaaaGreatDoor
namespace Go.Proofs.YtnpinkbbkhllaaaGreatDoor
open Go.ChangeShapes Go.WideShapes Go.ChangeAt Go.RowKit
attribute [local go_sem ↓] Go.wp_at_zero Go.wp_at_succ
def cntB (ts : List Nt) (L : List Int) : Nat := (L.map fun x => (ts.filter fun n => n.bk == x).length).sum
structure LstF (s : Sf) (its : List It) : Prop where
  len : its.length = s.bs.length
  book : ∀ x ∈ its, 0 ≤ bookAt s x.id
  less : ∀ (k : Nat) (x y : It), its[k]? = some x → its[k + 1]? = some y → Op.bytesLess x.nm.toList y.nm.toList = true
  all : cntB s.ts (its.map It.id) = s.ts.length
theorem book_is {s : Sf} (x : Int) : (0 ≤ bookAt s x) ↔ ∃ b ∈ s.bs, b.id = x := by
  have := idxP_ge (fun b : Bk => b.id == x) s.bs
  unfold bookAt
  constructor
  · intro h
    rw [decide_eq_true h] at this
    obtain ⟨b, hb, he⟩ := List.any_eq_true.1 this.symm
    exact ⟨b, hb, by simpa using he⟩
  · rintro ⟨b, hb, rfl⟩
    rw [List.any_eq_true.2 ⟨b, hb, by simp⟩] at this
    exact of_decide_eq_true this
structure NtsF (s : Sf) (x : Int) (its : List It) : Prop where
  len : its.length = (s.ts.filter fun n => n.bk == x).length
  note : ∀ y ∈ its, ∃ n ∈ s.ts, n.bk = x ∧ ntIt n = y
  less : ∀ (k : Nat) (y z : It), its[k]? = some y → its[k + 1]? = some z → Op.bytesLess y.nm.toList z.nm.toList = true
theorem MayF.nnames {s : Sf} (h : MayF s) {a b : Nt} (ha : a ∈ s.ts) (hb : b ∈ s.ts) (hk : a.bk = b.bk) (he : a.nm.toList = b.nm.toList) : a.id = b.id := by
  have h1 := (h.ts b hb).2.2
  unfold mayNt at h1
  simp only [Bool.and_eq_true, Bool.not_eq_true'] at h1
  have h2 := h1.2.2.1
  unfold noteTk at h2
  rw [List.any_eq_false] at h2
  have h3 := h2 a ha
  simpa [sameS, he, hk] using h3
end Go.Proofs.YtnpinkbbkhllaaaGreatDoor
namespace Go.Proofs.YtnpinkbbkhllaaaGreatDoor
open Go.ChangeShapes Go.WideShapes Go.ChangeAt Go.RowKit
attribute [local go_sem ↓] Go.wp_at_zero Go.wp_at_succ
theorem results_cell2 {P : Program} {fn : Func} {p q r : Tmp} {ty : TypeId} (h : fn.results = #[.cell p ty, .tmp q, .tmp r]) (tmps : Array Value) (w : World) (g : Nat) (t : TypeId) (cs : Array Value) (fr : Nat × Nat) (d : TypeDesc)
    (hp : tmps.getD p undef = .pointer (some ⟨g, 0, none⟩)) (hg : w.heap[g]? = some (.cells cs t fr))
    (hu : P.underlying ty = some d) (hd : (match d with | .struct _ | .array _ _ => true | _ => false) = true) (hi : (P.info? ty).map (·.size) = some cs.size) :
    (results fn tmps).run P w = .ok (.tuple #[.agg cs, tmps.getD q undef, tmps.getD r undef]) w := by
  have hp' : tmps[p]?.getD undef = .pointer (some ⟨g, 0, none⟩) := by simpa using hp
  simp [results, h, hp', asAddr, run_loadVar_row w g t ty cs fr d hg hu hd hi]
theorem Blk.st5_ {w : World} {g : Nat} {t : TypeId} {p0 p1 p2 p3 p4 : Value} (h : Blk w g t #[p0, p1, p2, p3, p4]) (a0 a1 a2 a3 a4 : Value) : Blk (st5 w g 0 a0 a1 a2 a3 a4) g t #[a0, a1, a2, a3, a4] := by
  have := (Blk.set_ (Blk.set_ (Blk.set_ (Blk.set_ (Blk.set_ h 0 a0) 1 a1) 2 a2) 3 a3) 4 a4)
  simpa [st5] using this
theorem st5_grown (w : World) (g o : Nat) (a0 a1 a2 a3 a4 : Value) : w.grownBy (st5 w g o a0 a1 a2 a3 a4) (some g) := grown_set (grown_set (grown_set (grown_set (grown_set (World.grownBy.refl w _) _ _) _ _) _ _) _ _) _ _
theorem st5_below {B g : Nat} {w w1 : World} (h : Below B w w1) (hB : B ≤ g) (o : Nat) (a0 a1 a2 a3 a4 : Value) (h0 : B ≤ w1.heap.size := by first | omega | exact (Below.size ‹_›)) : Below B w (st5 w1 g o a0 a1 a2 a3 a4) := below_grown h (st5_grown w1 g o a0 a1 a2 a3 a4) hB h0
def fullB (s : Sf) : Bool := decide (6 ≤ s.bs.length) || decide (65536 ≤ s.nb)
def makeC (s : Sf) (x : ByteArray) : Int := cond (mayS s) (cond (mayN x) (cond (bookTk s x 0) 7 (cond (fullB s) 3 0)) 6) 2
def makeS (s : Sf) (x : ByteArray) : Sf := { s with nb := s.nb + 1, bs := s.bs ++ [⟨s.nb, x⟩] }
theorem empty_any (w : World) :
    Calls Tryz.prog 46 #[] w fun e' w' => e' = .returned (.agg #[.int .i64 1, .int .i64 1, .int .i64 1, .slice none 0 0, .slice none 0 0]) ∧ Below w.heap.size w w' := by
  have B1 : Blk (w.alloc (.cells #[.int .i64 0, .int .i64 0, .int .i64 0, .slice none 0 0, .slice none 0 0] 41)) w.heap.size 41 #[.int .i64 0, .int .i64 0, .int .i64 0, .slice none 0 0, .slice none 0 0] := Blk.new_ w 41 #[.int .i64 0, .int .i64 0, .int .i64 0, .slice none 0 0, .slice none 0 0]
  have HB : Below w.heap.size w (w.alloc (.cells #[.int .i64 0, .int .i64 0, .int .i64 0, .slice none 0 0, .slice none 0 0] 41)) := (Below.refl w.heap.size w).alloc (Nat.le_refl _) _
  go_enter Tryz.func46, Tryz.ntmps46
  go_wp2_with fail
  change bodyPost _ _ _ _ _ (w.alloc (.cells #[.int .i64 1, .int .i64 1, .int .i64 1, .slice none 0 0, .slice none 0 0] 41))
  have B2u : Blk (w.alloc (.cells #[.int .i64 1, .int .i64 1, .int .i64 1, .slice none 0 0, .slice none 0 0] 41)) w.heap.size 41 #[.int .i64 1, .int .i64 1, .int .i64 1, .slice none 0 0, .slice none 0 0] := Blk.new_ w 41 _
  have hb2 : Below w.heap.size w (w.alloc (.cells #[.int .i64 1, .int .i64 1, .int .i64 1, .slice none 0 0, .slice none 0 0] 41)) := (Below.refl w.heap.size w).alloc (Nat.le_refl _) _
  generalize w.alloc (.cells #[.int .i64 1, .int .i64 1, .int .i64 1, .slice none 0 0, .slice none 0 0] 41) = Wd at B2u hb2 ⊢
  apply bodyPost_ret (v := .agg #[.int .i64 1, .int .i64 1, .int .i64 1, .slice none 0 0, .slice none 0 0])
  · exact results_cell_row Tryz.results46 _ Wd w.heap.size 41 _ (0, 0) _ rfl B2u Tryz.underlying41 rfl (by kernel_rfl)
  · rfl
  · exact ⟨rfl, hb2⟩
theorem make_no (s : Sf) (v : Value) (x : ByteArray) (w : World) (hS : ShR w w.heap.size v s) (hT : Tabs w) (c : Int) (hc : makeC s x = c) (hne : c ≠ 0) :
    Calls Tryz.prog 19 #[v, .string x] w fun e' w' => e' = .returned (.tuple #[.agg #[.int .i64 0, .int .i64 0, .int .i64 0, .slice none 0 0, .slice none 0 0], .int .i64 0, .int .i64 c]) ∧ Below w.heap.size w w' := by
  have hS0 := hS
  obtain ⟨Ab, cb, An, cn, rfl, hB, hN, hcb, hmb, hcn, hmn⟩ := hS.ex
  clear hS
  have HB : Below w.heap.size w ((w.alloc (.cells #[.int .i64 s.nb, .int .i64 s.nn, .int .i64 s.ns, .slice Ab s.bs.length cb, .slice An s.ts.length cn] 41)).alloc (.cells #[.int .i64 0, .int .i64 0, .int .i64 0, .slice none 0 0, .slice none 0 0] 41)) := (((Below.refl w.heap.size w).alloc (by first | (simp; done) | (simp; omega)) _).alloc (by first | (simp; done) | (simp; omega)) _)
  have B1 : Blk ((w.alloc (.cells #[.int .i64 s.nb, .int .i64 s.nn, .int .i64 s.ns, .slice Ab s.bs.length cb, .slice An s.ts.length cn] 41)).alloc (.cells #[.int .i64 0, .int .i64 0, .int .i64 0, .slice none 0 0, .slice none 0 0] 41)) w.heap.size 41 #[.int .i64 s.nb, .int .i64 s.nn, .int .i64 s.ns, .slice Ab s.bs.length cb, .slice An s.ts.length cn] := (Blk.new_ w 41 #[.int .i64 s.nb, .int .i64 s.nn, .int .i64 s.ns, .slice Ab s.bs.length cb, .slice An s.ts.length cn]).alloc_ (.cells #[.int .i64 0, .int .i64 0, .int .i64 0, .slice none 0 0, .slice none 0 0] 41)
  have B2 : Blk ((w.alloc (.cells #[.int .i64 s.nb, .int .i64 s.nn, .int .i64 s.ns, .slice Ab s.bs.length cb, .slice An s.ts.length cn] 41)).alloc (.cells #[.int .i64 0, .int .i64 0, .int .i64 0, .slice none 0 0, .slice none 0 0] 41)) (w.heap.size + 1) 41 #[.int .i64 0, .int .i64 0, .int .i64 0, .slice none 0 0, .slice none 0 0] := by
    have := Blk.new_ (w.alloc (.cells #[.int .i64 s.nb, .int .i64 s.nn, .int .i64 s.ns, .slice Ab s.bs.length cb, .slice An s.ts.length cn] 41)) 41 #[.int .i64 0, .int .i64 0, .int .i64 0, .slice none 0 0, .slice none 0 0]
    simpa using this
  have S1 : ShR ((w.alloc (.cells #[.int .i64 s.nb, .int .i64 s.nn, .int .i64 s.ns, .slice Ab s.bs.length cb, .slice An s.ts.length cn] 41)).alloc (.cells #[.int .i64 0, .int .i64 0, .int .i64 0, .slice none 0 0, .slice none 0 0] 41)) (((w.alloc (.cells #[.int .i64 s.nb, .int .i64 s.nn, .int .i64 s.ns, .slice Ab s.bs.length cb, .slice An s.ts.length cn] 41)).alloc (.cells #[.int .i64 0, .int .i64 0, .int .i64 0, .slice none 0 0, .slice none 0 0] 41))).heap.size (.agg #[.int .i64 s.nb, .int .i64 s.nn, .int .i64 s.ns, .slice Ab s.bs.length cb, .slice An s.ts.length cn]) s := hS0.next HB
  have T1 := hT.next HB
  clear hS0 hT hB hN hcb hmb hcn hmn
  obtain ⟨M, hM⟩ : ∃ M, mayS s = M := ⟨_, rfl⟩
  obtain ⟨N, hN⟩ : ∃ N, mayN x = N := ⟨_, rfl⟩
  obtain ⟨K_, hK⟩ : ∃ K, bookTk s x 0 = K := ⟨_, rfl⟩
  unfold makeC at hc
  rw [hM, hN, hK] at hc
  have HM := Lib.hid hM
  have HN : Hid (nameB x.data.toList = N) := Lib.hid hN
  have HK := Lib.hid hK
  clear hM hN hK
  obtain ⟨n, hn⟩ : ∃ n, s.bs.length = n := ⟨_, rfl⟩
  have hf : fullB s = (decide (6 ≤ n) || decide (65536 ≤ s.nb)) := by unfold fullB; rw [hn]
  rw [hf] at hc
  rw [hn] at HB B1 S1 T1 B2 ⊢
  clear hf hn
  cases M
  · obtain rfl : c = 2 := hc.symm
    clear hc hne
    go_enter Tryz.func19, Tryz.ntmps19
    go_wp2_with (first | (go_at_call 52; ((with_reducible refine (smay_any s _ _ S1 T1 _ HM.out).mono ?_); rintro e' w3 ⟨rfl, bx⟩; have S1 := S1.next bx; have T1 := T1.next bx; have B1 := B1.below bx B1.lt; have B2 := B2.below bx B2.lt; have HB := btr HB HB.size bx; (try clear k0 k1 k2 k3 k4 r0 r1 r2 r3 r4 t0 t1 t2 t3 t4); have k0 := B1.cell_ 0; have r0 := B2.cell_ 0; have t0 := B2.free 0; have k1 := B1.cell_ 1; have r1 := B2.cell_ 1; have t1 := B2.free 1; have k2 := B1.cell_ 2; have r2 := B2.cell_ 2; have t2 := B2.free 2; have k3 := B1.cell_ 3; have r3 := B2.cell_ 3; have t3 := B2.free 3; have k4 := B1.cell_ 4; have r4 := B2.cell_ 4; have t4 := B2.free 4; simp at k0 k1 k2 k3 k4 r0 r1 r2 r3 r4; clear bx)))
    have B2u := B2.st5_ (.int .i64 0) (.int .i64 0) (.int .i64 0) (.slice none 0 0) (.slice none 0 0)
    have hb2 := st5_below HB (g := w.heap.size + 1) (by omega) 0 (.int .i64 0) (.int .i64 0) (.int .i64 0) (.slice none 0 0) (.slice none 0 0)
    change bodyPost _ _ _ _ _ (st5 w3 (w.heap.size + 1) 0 (.int .i64 0) (.int .i64 0) (.int .i64 0) (.slice none 0 0) (.slice none 0 0))
    generalize st5 w3 (w.heap.size + 1) 0 (.int .i64 0) (.int .i64 0) (.int .i64 0) (.slice none 0 0) (.slice none 0 0) = Wd at B2u hb2 ⊢
    apply bodyPost_ret (v := .tuple #[.agg #[.int .i64 0, .int .i64 0, .int .i64 0, .slice none 0 0, .slice none 0 0], .int .i64 0, .int .i64 2])
    · exact results_cell2 Tryz.results19 _ Wd (w.heap.size + 1) 41 #[.int .i64 0, .int .i64 0, .int .i64 0, .slice none 0 0, .slice none 0 0] (0, 0) _ rfl B2u Tryz.underlying41 rfl (by kernel_rfl)
    · rfl
    · exact ⟨rfl, hb2⟩
  · cases N
    · obtain rfl : c = 6 := hc.symm
      clear hc hne
      go_enter Tryz.func19, Tryz.ntmps19
      go_wp2_with (first | (go_at_call 52; ((with_reducible refine (smay_any s _ _ S1 T1 _ HM.out).mono ?_); rintro e' w3 ⟨rfl, bx⟩; have S1 := S1.next bx; have T1 := T1.next bx; have B1 := B1.below bx B1.lt; have B2 := B2.below bx B2.lt; have HB := btr HB HB.size bx; (try clear k0 k1 k2 k3 k4 r0 r1 r2 r3 r4 t0 t1 t2 t3 t4); have k0 := B1.cell_ 0; have r0 := B2.cell_ 0; have t0 := B2.free 0; have k1 := B1.cell_ 1; have r1 := B2.cell_ 1; have t1 := B2.free 1; have k2 := B1.cell_ 2; have r2 := B2.cell_ 2; have t2 := B2.free 2; have k3 := B1.cell_ 3; have r3 := B2.cell_ 3; have t3 := B2.free 3; have k4 := B1.cell_ 4; have r4 := B2.cell_ 4; have t4 := B2.free 4; simp at k0 k1 k2 k3 k4 r0 r1 r2 r3 r4; clear bx)) | (go_at_call 53; ((with_reducible refine (nmay_any x _ _ T1 HN.out).mono ?_); rintro e' w4 ⟨rfl, bx⟩; have S1 := S1.next bx; have T1 := T1.next bx; have B1 := B1.below bx B1.lt; have B2 := B2.below bx B2.lt; have HB := btr HB HB.size bx; (try clear k0 k1 k2 k3 k4 r0 r1 r2 r3 r4 t0 t1 t2 t3 t4); have k0 := B1.cell_ 0; have r0 := B2.cell_ 0; have t0 := B2.free 0; have k1 := B1.cell_ 1; have r1 := B2.cell_ 1; have t1 := B2.free 1; have k2 := B1.cell_ 2; have r2 := B2.cell_ 2; have t2 := B2.free 2; have k3 := B1.cell_ 3; have r3 := B2.cell_ 3; have t3 := B2.free 3; have k4 := B1.cell_ 4; have r4 := B2.cell_ 4; have t4 := B2.free 4; simp at k0 k1 k2 k3 k4 r0 r1 r2 r3 r4; clear bx)))
      have B2u := B2.st5_ (.int .i64 0) (.int .i64 0) (.int .i64 0) (.slice none 0 0) (.slice none 0 0)
      have hb2 := st5_below HB (g := w.heap.size + 1) (by omega) 0 (.int .i64 0) (.int .i64 0) (.int .i64 0) (.slice none 0 0) (.slice none 0 0)
      change bodyPost _ _ _ _ _ (st5 w4 (w.heap.size + 1) 0 (.int .i64 0) (.int .i64 0) (.int .i64 0) (.slice none 0 0) (.slice none 0 0))
      generalize st5 w4 (w.heap.size + 1) 0 (.int .i64 0) (.int .i64 0) (.int .i64 0) (.slice none 0 0) (.slice none 0 0) = Wd at B2u hb2 ⊢
      apply bodyPost_ret (v := .tuple #[.agg #[.int .i64 0, .int .i64 0, .int .i64 0, .slice none 0 0, .slice none 0 0], .int .i64 0, .int .i64 6])
      · exact results_cell2 Tryz.results19 _ Wd (w.heap.size + 1) 41 #[.int .i64 0, .int .i64 0, .int .i64 0, .slice none 0 0, .slice none 0 0] (0, 0) _ rfl B2u Tryz.underlying41 rfl (by kernel_rfl)
      · rfl
      · exact ⟨rfl, hb2⟩
    · cases K_
      · by_cases h6 : 6 ≤ n
        · obtain rfl : c = 3 := by simpa [h6] using hc.symm
          have g6 : (6 : Int) ≤ (n : Int) := by omega
          clear hc hne h6
          go_enter Tryz.func19, Tryz.ntmps19
          go_wp2_with (first | (go_at_call 52; ((with_reducible refine (smay_any s _ _ S1 T1 _ HM.out).mono ?_); rintro e' w3 ⟨rfl, bx⟩; have S1 := S1.next bx; have T1 := T1.next bx; have B1 := B1.below bx B1.lt; have B2 := B2.below bx B2.lt; have HB := btr HB HB.size bx; (try clear k0 k1 k2 k3 k4 r0 r1 r2 r3 r4 t0 t1 t2 t3 t4); have k0 := B1.cell_ 0; have r0 := B2.cell_ 0; have t0 := B2.free 0; have k1 := B1.cell_ 1; have r1 := B2.cell_ 1; have t1 := B2.free 1; have k2 := B1.cell_ 2; have r2 := B2.cell_ 2; have t2 := B2.free 2; have k3 := B1.cell_ 3; have r3 := B2.cell_ 3; have t3 := B2.free 3; have k4 := B1.cell_ 4; have r4 := B2.cell_ 4; have t4 := B2.free 4; simp at k0 k1 k2 k3 k4 r0 r1 r2 r3 r4; clear bx)) | (go_at_call 53; ((with_reducible refine (nmay_any x _ _ T1 HN.out).mono ?_); rintro e' w4 ⟨rfl, bx⟩; have S1 := S1.next bx; have T1 := T1.next bx; have B1 := B1.below bx B1.lt; have B2 := B2.below bx B2.lt; have HB := btr HB HB.size bx; (try clear k0 k1 k2 k3 k4 r0 r1 r2 r3 r4 t0 t1 t2 t3 t4); have k0 := B1.cell_ 0; have r0 := B2.cell_ 0; have t0 := B2.free 0; have k1 := B1.cell_ 1; have r1 := B2.cell_ 1; have t1 := B2.free 1; have k2 := B1.cell_ 2; have r2 := B2.cell_ 2; have t2 := B2.free 2; have k3 := B1.cell_ 3; have r3 := B2.cell_ 3; have t3 := B2.free 3; have k4 := B1.cell_ 4; have r4 := B2.cell_ 4; have t4 := B2.free 4; simp at k0 k1 k2 k3 k4 r0 r1 r2 r3 r4; clear bx)) | (go_at_call 54; ((with_reducible refine (bTaken_any s _ x _ _ S1 _ HK.out).mono ?_); rintro e' w5 ⟨rfl, bx⟩; have S1 := S1.next bx; have T1 := T1.next bx; have B1 := B1.below bx B1.lt; have B2 := B2.below bx B2.lt; have HB := btr HB HB.size bx; (try clear k0 k1 k2 k3 k4 r0 r1 r2 r3 r4 t0 t1 t2 t3 t4); have k0 := B1.cell_ 0; have r0 := B2.cell_ 0; have t0 := B2.free 0; have k1 := B1.cell_ 1; have r1 := B2.cell_ 1; have t1 := B2.free 1; have k2 := B1.cell_ 2; have r2 := B2.cell_ 2; have t2 := B2.free 2; have k3 := B1.cell_ 3; have r3 := B2.cell_ 3; have t3 := B2.free 3; have k4 := B1.cell_ 4; have r4 := B2.cell_ 4; have t4 := B2.free 4; simp at k0 k1 k2 k3 k4 r0 r1 r2 r3 r4; clear bx)))
          have B2u := B2.st5_ (.int .i64 0) (.int .i64 0) (.int .i64 0) (.slice none 0 0) (.slice none 0 0)
          have hb2 := st5_below HB (g := w.heap.size + 1) (by omega) 0 (.int .i64 0) (.int .i64 0) (.int .i64 0) (.slice none 0 0) (.slice none 0 0)
          change bodyPost _ _ _ _ _ (st5 w5 (w.heap.size + 1) 0 (.int .i64 0) (.int .i64 0) (.int .i64 0) (.slice none 0 0) (.slice none 0 0))
          generalize st5 w5 (w.heap.size + 1) 0 (.int .i64 0) (.int .i64 0) (.int .i64 0) (.slice none 0 0) (.slice none 0 0) = Wd at B2u hb2 ⊢
          apply bodyPost_ret (v := .tuple #[.agg #[.int .i64 0, .int .i64 0, .int .i64 0, .slice none 0 0, .slice none 0 0], .int .i64 0, .int .i64 3])
          · exact results_cell2 Tryz.results19 _ Wd (w.heap.size + 1) 41 #[.int .i64 0, .int .i64 0, .int .i64 0, .slice none 0 0, .slice none 0 0] (0, 0) _ rfl B2u Tryz.underlying41 rfl (by kernel_rfl)
          · rfl
          · exact ⟨rfl, hb2⟩
        · by_cases h7 : 65536 ≤ s.nb
          · obtain rfl : c = 3 := by simpa [h6, h7] using hc.symm
            have g6 : ¬ (6 : Int) ≤ (n : Int) := by omega
            clear hc hne h6
            go_enter Tryz.func19, Tryz.ntmps19
            go_wp2_with (first | (go_at_call 52; ((with_reducible refine (smay_any s _ _ S1 T1 _ HM.out).mono ?_); rintro e' w3 ⟨rfl, bx⟩; have S1 := S1.next bx; have T1 := T1.next bx; have B1 := B1.below bx B1.lt; have B2 := B2.below bx B2.lt; have HB := btr HB HB.size bx; (try clear k0 k1 k2 k3 k4 r0 r1 r2 r3 r4 t0 t1 t2 t3 t4); have k0 := B1.cell_ 0; have r0 := B2.cell_ 0; have t0 := B2.free 0; have k1 := B1.cell_ 1; have r1 := B2.cell_ 1; have t1 := B2.free 1; have k2 := B1.cell_ 2; have r2 := B2.cell_ 2; have t2 := B2.free 2; have k3 := B1.cell_ 3; have r3 := B2.cell_ 3; have t3 := B2.free 3; have k4 := B1.cell_ 4; have r4 := B2.cell_ 4; have t4 := B2.free 4; simp at k0 k1 k2 k3 k4 r0 r1 r2 r3 r4; clear bx)) | (go_at_call 53; ((with_reducible refine (nmay_any x _ _ T1 HN.out).mono ?_); rintro e' w4 ⟨rfl, bx⟩; have S1 := S1.next bx; have T1 := T1.next bx; have B1 := B1.below bx B1.lt; have B2 := B2.below bx B2.lt; have HB := btr HB HB.size bx; (try clear k0 k1 k2 k3 k4 r0 r1 r2 r3 r4 t0 t1 t2 t3 t4); have k0 := B1.cell_ 0; have r0 := B2.cell_ 0; have t0 := B2.free 0; have k1 := B1.cell_ 1; have r1 := B2.cell_ 1; have t1 := B2.free 1; have k2 := B1.cell_ 2; have r2 := B2.cell_ 2; have t2 := B2.free 2; have k3 := B1.cell_ 3; have r3 := B2.cell_ 3; have t3 := B2.free 3; have k4 := B1.cell_ 4; have r4 := B2.cell_ 4; have t4 := B2.free 4; simp at k0 k1 k2 k3 k4 r0 r1 r2 r3 r4; clear bx)) | (go_at_call 54; ((with_reducible refine (bTaken_any s _ x _ _ S1 _ HK.out).mono ?_); rintro e' w5 ⟨rfl, bx⟩; have S1 := S1.next bx; have T1 := T1.next bx; have B1 := B1.below bx B1.lt; have B2 := B2.below bx B2.lt; have HB := btr HB HB.size bx; (try clear k0 k1 k2 k3 k4 r0 r1 r2 r3 r4 t0 t1 t2 t3 t4); have k0 := B1.cell_ 0; have r0 := B2.cell_ 0; have t0 := B2.free 0; have k1 := B1.cell_ 1; have r1 := B2.cell_ 1; have t1 := B2.free 1; have k2 := B1.cell_ 2; have r2 := B2.cell_ 2; have t2 := B2.free 2; have k3 := B1.cell_ 3; have r3 := B2.cell_ 3; have t3 := B2.free 3; have k4 := B1.cell_ 4; have r4 := B2.cell_ 4; have t4 := B2.free 4; simp at k0 k1 k2 k3 k4 r0 r1 r2 r3 r4; clear bx)))
            have B2u := B2.st5_ (.int .i64 0) (.int .i64 0) (.int .i64 0) (.slice none 0 0) (.slice none 0 0)
            have hb2 := st5_below HB (g := w.heap.size + 1) (by omega) 0 (.int .i64 0) (.int .i64 0) (.int .i64 0) (.slice none 0 0) (.slice none 0 0)
            change bodyPost _ _ _ _ _ (st5 w5 (w.heap.size + 1) 0 (.int .i64 0) (.int .i64 0) (.int .i64 0) (.slice none 0 0) (.slice none 0 0))
            generalize st5 w5 (w.heap.size + 1) 0 (.int .i64 0) (.int .i64 0) (.int .i64 0) (.slice none 0 0) (.slice none 0 0) = Wd at B2u hb2 ⊢
            apply bodyPost_ret (v := .tuple #[.agg #[.int .i64 0, .int .i64 0, .int .i64 0, .slice none 0 0, .slice none 0 0], .int .i64 0, .int .i64 3])
            · exact results_cell2 Tryz.results19 _ Wd (w.heap.size + 1) 41 #[.int .i64 0, .int .i64 0, .int .i64 0, .slice none 0 0, .slice none 0 0] (0, 0) _ rfl B2u Tryz.underlying41 rfl (by kernel_rfl)
            · rfl
            · exact ⟨rfl, hb2⟩
          · exact absurd (by simpa [h6, h7] using hc.symm) hne
      · obtain rfl : c = 7 := hc.symm
        clear hc hne
        go_enter Tryz.func19, Tryz.ntmps19
        go_wp2_with (first | (go_at_call 52; ((with_reducible refine (smay_any s _ _ S1 T1 _ HM.out).mono ?_); rintro e' w3 ⟨rfl, bx⟩; have S1 := S1.next bx; have T1 := T1.next bx; have B1 := B1.below bx B1.lt; have B2 := B2.below bx B2.lt; have HB := btr HB HB.size bx; (try clear k0 k1 k2 k3 k4 r0 r1 r2 r3 r4 t0 t1 t2 t3 t4); have k0 := B1.cell_ 0; have r0 := B2.cell_ 0; have t0 := B2.free 0; have k1 := B1.cell_ 1; have r1 := B2.cell_ 1; have t1 := B2.free 1; have k2 := B1.cell_ 2; have r2 := B2.cell_ 2; have t2 := B2.free 2; have k3 := B1.cell_ 3; have r3 := B2.cell_ 3; have t3 := B2.free 3; have k4 := B1.cell_ 4; have r4 := B2.cell_ 4; have t4 := B2.free 4; simp at k0 k1 k2 k3 k4 r0 r1 r2 r3 r4; clear bx)) | (go_at_call 53; ((with_reducible refine (nmay_any x _ _ T1 HN.out).mono ?_); rintro e' w4 ⟨rfl, bx⟩; have S1 := S1.next bx; have T1 := T1.next bx; have B1 := B1.below bx B1.lt; have B2 := B2.below bx B2.lt; have HB := btr HB HB.size bx; (try clear k0 k1 k2 k3 k4 r0 r1 r2 r3 r4 t0 t1 t2 t3 t4); have k0 := B1.cell_ 0; have r0 := B2.cell_ 0; have t0 := B2.free 0; have k1 := B1.cell_ 1; have r1 := B2.cell_ 1; have t1 := B2.free 1; have k2 := B1.cell_ 2; have r2 := B2.cell_ 2; have t2 := B2.free 2; have k3 := B1.cell_ 3; have r3 := B2.cell_ 3; have t3 := B2.free 3; have k4 := B1.cell_ 4; have r4 := B2.cell_ 4; have t4 := B2.free 4; simp at k0 k1 k2 k3 k4 r0 r1 r2 r3 r4; clear bx)) | (go_at_call 54; ((with_reducible refine (bTaken_any s _ x _ _ S1 _ HK.out).mono ?_); rintro e' w5 ⟨rfl, bx⟩; have S1 := S1.next bx; have T1 := T1.next bx; have B1 := B1.below bx B1.lt; have B2 := B2.below bx B2.lt; have HB := btr HB HB.size bx; (try clear k0 k1 k2 k3 k4 r0 r1 r2 r3 r4 t0 t1 t2 t3 t4); have k0 := B1.cell_ 0; have r0 := B2.cell_ 0; have t0 := B2.free 0; have k1 := B1.cell_ 1; have r1 := B2.cell_ 1; have t1 := B2.free 1; have k2 := B1.cell_ 2; have r2 := B2.cell_ 2; have t2 := B2.free 2; have k3 := B1.cell_ 3; have r3 := B2.cell_ 3; have t3 := B2.free 3; have k4 := B1.cell_ 4; have r4 := B2.cell_ 4; have t4 := B2.free 4; simp at k0 k1 k2 k3 k4 r0 r1 r2 r3 r4; clear bx)))
        have B2u := B2.st5_ (.int .i64 0) (.int .i64 0) (.int .i64 0) (.slice none 0 0) (.slice none 0 0)
        have hb2 := st5_below HB (g := w.heap.size + 1) (by omega) 0 (.int .i64 0) (.int .i64 0) (.int .i64 0) (.slice none 0 0) (.slice none 0 0)
        change bodyPost _ _ _ _ _ (st5 w5 (w.heap.size + 1) 0 (.int .i64 0) (.int .i64 0) (.int .i64 0) (.slice none 0 0) (.slice none 0 0))
        generalize st5 w5 (w.heap.size + 1) 0 (.int .i64 0) (.int .i64 0) (.int .i64 0) (.slice none 0 0) (.slice none 0 0) = Wd at B2u hb2 ⊢
        apply bodyPost_ret (v := .tuple #[.agg #[.int .i64 0, .int .i64 0, .int .i64 0, .slice none 0 0, .slice none 0 0], .int .i64 0, .int .i64 7])
        · exact results_cell2 Tryz.results19 _ Wd (w.heap.size + 1) 41 #[.int .i64 0, .int .i64 0, .int .i64 0, .slice none 0 0, .slice none 0 0] (0, 0) _ rfl B2u Tryz.underlying41 rfl (by kernel_rfl)
        · rfl
        · exact ⟨rfl, hb2⟩
end Go.Proofs.YtnpinkbbkhllaaaGreatDoor
namespace Go.Proofs.YtnpinkbbkhllaaaGreatDoor
open Go.ChangeShapes Go.WideShapes Go.ChangeAt Go.RowKit
attribute [local go_sem ↓] Go.wp_at_zero Go.wp_at_succ
theorem sheets_small {ns : Int} : ∀ (l : List Nt) (seen : List Int), sheetsFrom ns seen l = true → ∀ n ∈ l, n.sh.length ≤ 8
  | [], _, _, n, hn => by simp at hn
  | x :: l, seen, h, n, hn => by
    unfold sheetsFrom at h
    simp only [Bool.and_eq_true, decide_eq_true_eq] at h
    rcases List.mem_cons.1 hn with rfl | hn
    · exact h.1
    · exact sheets_small l _ h.2.2 n hn
theorem MayF.small {s : Sf} (h : MayF s) : ∀ n ∈ s.ts, n.tg.length ≤ 100000 ∧ n.sh.length ≤ 100000 := by
  intro n hn
  have h1 := (h.ts n hn).2.2
  unfold mayNt mayTg at h1
  simp only [Bool.and_eq_true, decide_eq_true_eq] at h1
  have h2 := sheets_small _ _ h.sh n hn
  have h3 := h1.2.2.2.1
  omega
theorem bk_snoc (l : List Bk) (b : Bk) : ((l ++ [b]).map bkC).flatten = (l.map bkC).flatten ++ bkC b := by
  rw [List.map_append, List.flatten_append]
  simp
theorem infoBk : (Tryz.prog.info? 101).map (fun i => (i.zero, i.size, i.bytes)) = some (some (.agg #[.int .i64 0, .string ByteArray.empty]), 2, 24) := by kernel_rfl
theorem rd_newB (w : World) (b : Bk) {g : Nat} (hg : g = w.heap.size) : Rd (w.alloc (.cells #[.int .i64 b.id, .string b.nm] 101)) (some ⟨g, 0, none⟩) 1 2 (bkC b) := by
  subst hg
  refine ⟨rfl, Or.inr ⟨_, 0, rfl, fun j u hj => ?_⟩⟩
  rw [Joins.cell_of_block (heap_alloc_new w _), Nat.zero_add]
  simpa [bkC] using hj
theorem bkC_one (b : Bk) : ∀ u ∈ bkC b, u.oneCell' = true := by
  intro u hu
  simp [bkC] at hu
  rcases hu with rfl | rfl <;> rfl
def NtsW (w : World) (base : Nat) (vn : Value) (ts : List Nt) : Prop := ∃ es : List (List Value), es.length = ts.length ∧ w.ownsRow base 83 5 vn ts.length es.flatten ∧ ∀ (k : Nat) (n : Nt) (e : List Value), ts[k]? = some n → es[k]? = some e → NtW w base n e
def BksW (w : World) (base : Nat) (vb : Value) (bs : List Bk) : Prop := w.ownsRow base 101 2 vb bs.length (bs.map bkC).flatten
theorem NtsW.below {w w' : World} {base : Nat} {vn : Value} {ts : List Nt} (h : NtsW w base vn ts) (hb : Below w.heap.size w w') : NtsW w' base vn ts := by
  obtain ⟨es, h1, h2, h3⟩ := h
  exact ⟨es, h1, own_belowW h2 hb, fun k n e a b => (h3 k n e a b).below hb⟩
theorem NtsW.far {w w' : World} {base g : Nat} {vn : Value} {ts : List Nt} (h : NtsW w base vn ts) (hg : w.grownBy w' (some g)) (hb : g < base) : NtsW w' base vn ts := by
  obtain ⟨es, h1, h2, h3⟩ := h
  refine ⟨es, h1, h2.kept hg (own_off h2 hb), fun k n e a b => ?_⟩
  obtain ⟨vt, vs, r, q1, q2⟩ := h3 k n e a b
  exact ⟨vt, vs, r, q1.kept hg (own_off q1 hb), q2.kept hg (own_off q2 hb)⟩
theorem NtsW.apart {w w' : World} {base b2 C2 n2 : Nat} {vn v2 : Value} {ts : List Nt} {x2 : List Value} (h : NtsW w base vn ts) (h2 : w.ownsRow b2 101 C2 v2 n2 x2) (hg : w.grownBy w' v2.ownBlock) : NtsW w' base vn ts := by
  obtain ⟨es, h1, h3, h4⟩ := h
  exact ⟨es, h1, h3.kept hg (own_apart h3 h2 (by decide)), fun k n e a b => (h4 k n e a b).kept h2 hg (by decide) (by decide)⟩
theorem BksW.below {w w' : World} {base : Nat} {vb : Value} {bs : List Bk} (h : BksW w base vb bs) (hb : Below w.heap.size w w') : BksW w' base vb bs := own_belowW h hb
theorem BksW.far {w w' : World} {base g : Nat} {vb : Value} {bs : List Bk} (h : BksW w base vb bs) (hg : w.grownBy w' (some g)) (hb : g < base) : BksW w' base vb bs := World.ownsRow.kept h hg (own_off h hb)
theorem ShW.parts {w : World} {base : Nat} {v : Value} {s : Sf} (h : ShW w base v s) : ∃ (Ab : Option Addr) (cb : Nat) (An : Option Addr) (cn : Nat), v = .agg #[.int .i64 s.nb, .int .i64 s.nn, .int .i64 s.ns, .slice Ab s.bs.length cb, .slice An s.ts.length cn] ∧ BksW w base (.slice Ab s.bs.length cb) s.bs ∧ NtsW w base (.slice An s.ts.length cn) s.ts ∧ s.bs.length ≤ cb ∧ cb ≤ maxLen ∧ s.ts.length ≤ cn ∧ cn ≤ maxLen := by
  obtain ⟨vb, vn, es, rfl, h1, h2, h3, h4⟩ := h
  obtain ⟨Ab, cb, rfl, q1, q2⟩ := own_shape h1
  obtain ⟨An, cn, rfl, q3, q4⟩ := own_shape h3
  exact ⟨Ab, cb, An, cn, rfl, h1, ⟨es, h2, h3, h4⟩, q1, q2, q3, q4⟩
theorem ShW.make {w : World} {base : Nat} {s : Sf} {vb vn : Value} (h1 : BksW w base vb s.bs) (h2 : NtsW w base vn s.ts) : ShW w base (.agg #[.int .i64 s.nb, .int .i64 s.nn, .int .i64 s.ns, vb, vn]) s := by
  obtain ⟨es, q1, q2, q3⟩ := h2
  exact ⟨vb, vn, es, rfl, h1, q1, q2, q3⟩
theorem Blk.grownR {w w' : World} {g : Nat} {t : TypeId} {cs : Array Value} {row : Option Nat} (h : Blk w g t cs) (hg : w.grownBy w' row) (hne : row ≠ some g) : Blk w' g t cs := (hg.block g h.lt (fun e => hne e.symm)).trans h
theorem wrapS (x : Int) (h1 : -9223372036854775808 ≤ x) (h2 : x ≤ 9223372036854775807) : IntKind.i64.wrap x = x := by rw [IntKind.wrap_i64]; omega
theorem drew_cell {w : World} {p : Addr} {v : Value} (h : w.cell? p = some v) : w.drew.cell? p = some v := h
theorem drew_blk {w : World} {g : Nat} {t : TypeId} {cs : Array Value} (h : Blk w g t cs) : Blk w.drew g t cs := h
theorem drew_own {w : World} {base C n : Nat} {e : TypeId} {v : Value} {xs : List Value} (h : w.ownsRow base e C v n xs) : w.drew.ownsRow base e C v n xs := h
theorem drew_below {B : Nat} {w w' : World} (h : Below B w w') : Below B w w'.drew := below_dn h 1
theorem NtsW.drew_ {w : World} {base : Nat} {vn : Value} {ts : List Nt} (h : NtsW w base vn ts) : NtsW w.drew base vn ts := h.below (below_dn (Below.refl _ _) 1)
theorem set1_grown (w : World) (g i : Nat) (u : Value) : w.grownBy (w.setCell ⟨g, i, none⟩ u) (some g) := grown_set (World.grownBy.refl w _) _ _
theorem make_yes (s : Sf) (v : Value) (x : ByteArray) (w : World) (hS : ShR w w.heap.size v s) (hT : Tabs w) (hc : makeC s x = 0) :
    Calls Tryz.prog 19 #[v, .string x] w fun e' w' => ∃ v', e' = .returned (.tuple #[v', .int .i64 s.nb, .int .i64 0]) ∧ ShW w' w.heap.size v' (makeS s x) ∧ Below w.heap.size w w' := by
  have hS0 := hS
  obtain ⟨Ab, cb, An, cn, rfl, hB, hN, hcb, hmb, hcn, hmn⟩ := hS.ex
  clear hS
  have HB : Below w.heap.size w ((w.alloc (.cells #[.int .i64 s.nb, .int .i64 s.nn, .int .i64 s.ns, .slice Ab s.bs.length cb, .slice An s.ts.length cn] 41)).alloc (.cells #[.int .i64 0, .int .i64 0, .int .i64 0, .slice none 0 0, .slice none 0 0] 41)) := (((Below.refl w.heap.size w).alloc (by first | (simp; done) | (simp; omega)) _).alloc (by first | (simp; done) | (simp; omega)) _)
  have B1 : Blk ((w.alloc (.cells #[.int .i64 s.nb, .int .i64 s.nn, .int .i64 s.ns, .slice Ab s.bs.length cb, .slice An s.ts.length cn] 41)).alloc (.cells #[.int .i64 0, .int .i64 0, .int .i64 0, .slice none 0 0, .slice none 0 0] 41)) w.heap.size 41 #[.int .i64 s.nb, .int .i64 s.nn, .int .i64 s.ns, .slice Ab s.bs.length cb, .slice An s.ts.length cn] := (Blk.new_ w 41 #[.int .i64 s.nb, .int .i64 s.nn, .int .i64 s.ns, .slice Ab s.bs.length cb, .slice An s.ts.length cn]).alloc_ (.cells #[.int .i64 0, .int .i64 0, .int .i64 0, .slice none 0 0, .slice none 0 0] 41)
  have B2 : Blk ((w.alloc (.cells #[.int .i64 s.nb, .int .i64 s.nn, .int .i64 s.ns, .slice Ab s.bs.length cb, .slice An s.ts.length cn] 41)).alloc (.cells #[.int .i64 0, .int .i64 0, .int .i64 0, .slice none 0 0, .slice none 0 0] 41)) (w.heap.size + 1) 41 #[.int .i64 0, .int .i64 0, .int .i64 0, .slice none 0 0, .slice none 0 0] := by
    have := Blk.new_ (w.alloc (.cells #[.int .i64 s.nb, .int .i64 s.nn, .int .i64 s.ns, .slice Ab s.bs.length cb, .slice An s.ts.length cn] 41)) 41 #[.int .i64 0, .int .i64 0, .int .i64 0, .slice none 0 0, .slice none 0 0]
    simpa using this
  have S1 : ShR ((w.alloc (.cells #[.int .i64 s.nb, .int .i64 s.nn, .int .i64 s.ns, .slice Ab s.bs.length cb, .slice An s.ts.length cn] 41)).alloc (.cells #[.int .i64 0, .int .i64 0, .int .i64 0, .slice none 0 0, .slice none 0 0] 41)) (((w.alloc (.cells #[.int .i64 s.nb, .int .i64 s.nn, .int .i64 s.ns, .slice Ab s.bs.length cb, .slice An s.ts.length cn] 41)).alloc (.cells #[.int .i64 0, .int .i64 0, .int .i64 0, .slice none 0 0, .slice none 0 0] 41))).heap.size (.agg #[.int .i64 s.nb, .int .i64 s.nn, .int .i64 s.ns, .slice Ab s.bs.length cb, .slice An s.ts.length cn]) s := hS0.next HB
  have T1 := hT.next HB
  clear hS0 hT hB hN hcb hmb hcn hmn
  obtain ⟨hM, hN, hK, hF⟩ : mayS s = true ∧ mayN x = true ∧ bookTk s x 0 = false ∧ fullB s = false := by
    unfold makeC at hc
    cases h1 : mayS s <;> cases h2 : mayN x <;> cases h3 : bookTk s x 0 <;> cases h4 : fullB s <;> rw [h1] at hc <;> simp [h2, h3, h4] at hc ⊢
  have hMF := mayF_of hM
  have hlb : s.bs.length ≤ 100000 := by have := hMF.bl; omega
  have hln : s.ts.length ≤ 100000 := by have := hMF.tl; omega
  have hlr := hMF.small
  have hnb := hMF.nb
  have HM := Lib.hid hM
  have HN : Hid (nameB x.data.toList = true) := Lib.hid hN
  have HK := Lib.hid hK
  obtain ⟨n, hn⟩ : ∃ n, s.bs.length = n := ⟨_, rfl⟩
  have hf : (decide (6 ≤ n) || decide (65536 ≤ s.nb)) = false := by rw [← hn]; exact hF
  rw [Bool.or_eq_false_iff, decide_eq_false_iff_not, decide_eq_false_iff_not] at hf
  have g6 : ¬ (6 : Int) ≤ (n : Int) := by omega
  have g7 : ¬ (65536 : Int) ≤ s.nb := hf.2
  have HNN := Lib.hid hn
  rw [hn] at HB B1 S1 T1 B2 ⊢
  have g8 : (65536 : Int) > s.nb := by omega
  have HLB := Lib.hid hlb
  have HLN := Lib.hid hln
  have HLR := Lib.hid hlr
  clear hf hF hM hN hK hMF hn hc hlb hln hlr
  go_enter Tryz.func19, Tryz.ntmps19
  go_upto_region 9 with (first | (go_at_call 52; ((with_reducible refine (smay_any s _ _ S1 T1 _ HM.out).mono ?_); rintro e' w3 ⟨rfl, bx⟩; have S1 := S1.next bx; have T1 := T1.next bx; have B1 := B1.below bx B1.lt; have B2 := B2.below bx B2.lt; have HB := btr HB HB.size bx; (try clear k0 k1 k2 k3 k4 r0 r1 r2 r3 r4 t0 t1 t2 t3 t4); have k0 := B1.cell_ 0; have r0 := B2.cell_ 0; have t0 := B2.free 0; have k1 := B1.cell_ 1; have r1 := B2.cell_ 1; have t1 := B2.free 1; have k2 := B1.cell_ 2; have r2 := B2.cell_ 2; have t2 := B2.free 2; have k3 := B1.cell_ 3; have r3 := B2.cell_ 3; have t3 := B2.free 3; have k4 := B1.cell_ 4; have r4 := B2.cell_ 4; have t4 := B2.free 4; simp at k0 k1 k2 k3 k4 r0 r1 r2 r3 r4; clear bx)) | (go_at_call 53; ((with_reducible refine (nmay_any x _ _ T1 HN.out).mono ?_); rintro e' w4 ⟨rfl, bx⟩; have S1 := S1.next bx; have T1 := T1.next bx; have B1 := B1.below bx B1.lt; have B2 := B2.below bx B2.lt; have HB := btr HB HB.size bx; (try clear k0 k1 k2 k3 k4 r0 r1 r2 r3 r4 t0 t1 t2 t3 t4); have k0 := B1.cell_ 0; have r0 := B2.cell_ 0; have t0 := B2.free 0; have k1 := B1.cell_ 1; have r1 := B2.cell_ 1; have t1 := B2.free 1; have k2 := B1.cell_ 2; have r2 := B2.cell_ 2; have t2 := B2.free 2; have k3 := B1.cell_ 3; have r3 := B2.cell_ 3; have t3 := B2.free 3; have k4 := B1.cell_ 4; have r4 := B2.cell_ 4; have t4 := B2.free 4; simp at k0 k1 k2 k3 k4 r0 r1 r2 r3 r4; clear bx)) | (go_at_call 54; ((with_reducible refine (bTaken_any s _ x _ _ S1 _ HK.out).mono ?_); rintro e' w5 ⟨rfl, bx⟩; have S1 := S1.next bx; have T1 := T1.next bx; have B1 := B1.below bx B1.lt; have B2 := B2.below bx B2.lt; have HB := btr HB HB.size bx; (try clear k0 k1 k2 k3 k4 r0 r1 r2 r3 r4 t0 t1 t2 t3 t4); have k0 := B1.cell_ 0; have r0 := B2.cell_ 0; have t0 := B2.free 0; have k1 := B1.cell_ 1; have r1 := B2.cell_ 1; have t1 := B2.free 1; have k2 := B1.cell_ 2; have r2 := B2.cell_ 2; have t2 := B2.free 2; have k3 := B1.cell_ 3; have r3 := B2.cell_ 3; have t3 := B2.free 3; have k4 := B1.cell_ 4; have r4 := B2.cell_ 4; have t4 := B2.free 4; simp at k0 k1 k2 k3 k4 r0 r1 r2 r3 r4; clear bx)))
  have hW5 : w.heap.size + 2 ≤ w5.heap.size := by have := B2.lt; omega
  go_upto_region 10 with (go_at_call 39; ((with_reducible refine (clone_any s _ _ S1 HLB.out HLN.out HLR.out).mono ?_); rintro e' w6 ⟨v6, rfl, hW, b6⟩; obtain ⟨Ab6, cb6, An6, cn6, rfl, hBk, hNt, q1, q2, q3, q4⟩ := hW.parts; rw [HNN.out] at q1 hBk ⊢; have B1 := B1.below b6 B1.lt; have B2 := B2.below b6 B2.lt; have HB := btr HB HB.size b6; (try clear k0 k1 k2 k3 k4 r0 r1 r2 r3 r4 t0 t1 t2 t3 t4); have k0 := B1.cell_ 0; have t0 := B1.free 0; have k1 := B1.cell_ 1; have t1 := B1.free 1; have k2 := B1.cell_ 2; have t2 := B1.free 2; have k3 := B1.cell_ 3; have t3 := B1.free 3; have k4 := B1.cell_ 4; have t4 := B1.free 4; simp at k0 k1 k2 k3 k4; have hz6 := b6.size; clear b6 hW S1 T1))
  have B1u := B1.st5_ (.int .i64 s.nb) (.int .i64 s.nn) (.int .i64 s.ns) (.slice Ab6 n cb6) (.slice An6 s.ts.length cn6)
  have hg6 := st5_grown w6 w.heap.size 0 (.int .i64 s.nb) (.int .i64 s.nn) (.int .i64 s.ns) (.slice Ab6 n cb6) (.slice An6 s.ts.length cn6)
  have B2u := B2.grown hg6 (by omega)
  have hBk2 := hBk.far hg6 (by omega)
  have hNt2 := hNt.far hg6 (by omega)
  have hb2 := below_grown HB hg6 (Nat.le_refl _) HB.size
  have hsz : w5.heap.size ≤ (st5 w6 w.heap.size 0 (.int .i64 s.nb) (.int .i64 s.nn) (.int .i64 s.ns) (.slice Ab6 n cb6) (.slice An6 s.ts.length cn6)).heap.size := by have := hz6; have := hg6.size; omega
  clear hg6
  obtain ⟨Wd, hWd⟩ : ∃ V : World, V = (st5 w6 w.heap.size 0 (.int .i64 s.nb) (.int .i64 s.nn) (.int .i64 s.ns) (.slice Ab6 n cb6) (.slice An6 s.ts.length cn6)) := ⟨_, rfl⟩
  change Code.wp _ _ _ _ (st5 w6 w.heap.size 0 (.int .i64 s.nb) (.int .i64 s.nn) (.int .i64 s.ns) (.slice Ab6 n cb6) (.slice An6 s.ts.length cn6))
  rw [← hWd] at B1u B2u hBk2 hNt2 hb2 hsz ⊢
  clear hWd B1 B2 HB hBk hNt k0 k1 k2 k3 k4 t0 t1 t2 t3 t4
  have hon : Wd.ownsRow w5.heap.size 101 2 (.slice Ab6 n cb6) n (s.bs.map bkC).flatten := by
    have h := hBk2
    unfold BksW at h
    rw [HNN.out] at h
    exact h
  have hrow := hon.lt
  have hz5 : w5.heap.size ≤ Wd.heap.size := hsz
  have k0 := B1u.cell_ 0
  have k1 := B1u.cell_ 1
  have k2 := B1u.cell_ 2
  have k3 := B1u.cell_ 3
  have k4 := B1u.cell_ 4
  simp at k0 k1 k2 k3 k4
  have hlw : w.heap.size < Wd.heap.size := by omega
  have hlw2 : w.heap.size ≠ Wd.heap.size := by omega
  have HZ5 := Lib.hid hz5
  have HROW := Lib.hid hrow
  have HW5 := Lib.hid hW5
  have HNB := Lib.hid hnb
  clear hrow hBk2 hnb
  go_upto_region 12 with (at_builtin; obtain ⟨ti0, hi, hz0, hz1, hz2⟩ := info_parts infoBk; refine wpList_app _ rfl (.tmp 41) (.tmp 43) _ rfl w5.heap.size 101 ti0 _ 2 24 Tryz.underlying38 hi hz0 hz1 hz2 rfl (by decide) _ n (s.bs.map bkC).flatten rfl ((hon.alloc _).alloc _) _ 1 _ (bkC ⟨s.nb, x⟩) rfl (rd_newB _ ⟨s.nb, x⟩ (by simp)) (bkC_one _) (by unfold maxLen; omega) (by omega) (by simp; omega) ?_; intro v' w7 ho' hg' hv'; clear hi hz0 hz1 hz2; have B1a := ((B1u.alloc_ (.cells #[.int .i64 s.nb, .string x] 101)).alloc_ (.cells #[.int .i64 s.nb, .string x] 101)).grownR hg' (fun h => by have h1 := HROW.out _ h; have h2 := HW5.out; omega); have B2a := ((B2u.alloc_ (.cells #[.int .i64 s.nb, .string x] 101)).alloc_ (.cells #[.int .i64 s.nb, .string x] 101)).grownR hg' (fun h => by have h1 := HROW.out _ h; have h2 := HW5.out; omega); have B3a := ((Blk.new_ Wd 101 #[.int .i64 s.nb, .string x]).alloc_ (.cells #[.int .i64 s.nb, .string x] 101)).grownR hg' (fun h => by have h1 := HROW.out _ h; omega); have hNa := (hNt2.below (((Below.refl _ Wd).alloc (Nat.le_refl _) _).alloc (by simp) _)).apart ((hon.alloc _).alloc _) hg'; have HBa := (((hb2.alloc hb2.size _).alloc (by have := hb2.size; simp; omega) _).trans (below_app (B := w.heap.size) (by have := HW5.out; omega) (by have := HZ5.out; simp; omega) ((hon.alloc _).alloc _) hg')); have hsa : Wd.heap.size < w7.heap.size := B3a.lt; obtain ⟨A7, c7, rfl, q11, q12⟩ := own_shape ho'; (try clear k0 k1 k2 k3 k4); have k0 := B1a.cell_ 0; have k3 := B1a.cell_ 3; have t0 := B1a.free 0; have t3 := B1a.free 3; simp at k0 k3; clear hg' hv' B1u B2u hb2 hNt2 hon)
  have B1b := (B1a.set_ 3 (.slice A7 (n + 1) c7))
  simp at B1b
  have hg1 := set1_grown w7 w.heap.size 3 (.slice A7 (n + 1) c7)
  have B2b := B2a.grown hg1 (by omega)
  have B3b := B3a.grown hg1 (by have := HZ5.out; have := HW5.out; omega)
  have hNb := hNa.far hg1 (by have := HW5.out; omega)
  have hOb := ho'.kept hg1 (own_off ho' (by have := HW5.out; omega))
  have HBb := below_grown HBa hg1 (Nat.le_refl _) HBa.size
  have hsb := hg1.size
  obtain ⟨W8, hW8⟩ : ∃ V : World, V = w7.setCell ⟨w.heap.size, 3, none⟩ (.slice A7 (n + 1) c7) := ⟨_, rfl⟩
  rw [← hW8] at B1b B2b B3b hNb hOb HBb hsb ⊢
  clear hW8 B1a B2a B3a hNa ho' HBa hg1 k0 k3 t0 t3
  have k0 := B1b.cell_ 0
  have t0 := B1b.free 0
  simp at k0
  have hwr : IntKind.i64.wrap (s.nb + 1) = s.nb + 1 := wrapS _ (by have := HNB.out; omega) (by have := HNB.out; omega)
  go_upto_region 13 with fail
  have B1c := (B1b.set_ 0 (.int .i64 (s.nb + 1)))
  simp at B1c
  have hg2 := set1_grown W8 w.heap.size 0 (.int .i64 (s.nb + 1))
  have B2c := B2b.grown hg2 (by omega)
  have B3c := B3b.grown hg2 (by omega)
  have hNc := hNb.far hg2 (by have := HW5.out; omega)
  have hOc := hOb.kept hg2 (own_off hOb (by have := HW5.out; omega))
  have HBc := below_grown HBb hg2 (Nat.le_refl _) HBb.size
  obtain ⟨W9, hW9⟩ : ∃ V : World, V = W8.setCell ⟨w.heap.size, 0, none⟩ (.int .i64 (s.nb + 1)) := ⟨_, rfl⟩
  rw [← hW9] at B1c B2c B3c hNc hOc HBc ⊢
  clear hW9 B1b B2b B3b hNb hOb HBb hg2 k0 t0 hwr
  have q0 := B1c.cell_ 0
  have q1 := B1c.cell_ 1
  have q2 := B1c.cell_ 2
  have q3 := B1c.cell_ 3
  have q4 := B1c.cell_ 4
  have q5 := B3c.cell_ 0
  simp at q0 q1 q2 q3 q4 q5
  have QD : W9.drew.cell? ⟨w.heap.size, 0, none⟩ = some (.int .i64 (s.nb + 1)) ∧ W9.drew.cell? ⟨w.heap.size, 1, none⟩ = some (.int .i64 s.nn) ∧ W9.drew.cell? ⟨w.heap.size, 2, none⟩ = some (.int .i64 s.ns) ∧ W9.drew.cell? ⟨w.heap.size, 3, none⟩ = some (.slice A7 (n + 1) c7) ∧ W9.drew.cell? ⟨w.heap.size, 4, none⟩ = some (.slice An6 s.ts.length cn6) ∧ W9.drew.cell? ⟨Wd.heap.size, 0, none⟩ = some (.int .i64 s.nb) := ⟨drew_cell q0, drew_cell q1, drew_cell q2, drew_cell q3, drew_cell q4, drew_cell q5⟩
  have r0 := B2c.cell_ 0
  have r1 := B2c.cell_ 1
  have r2 := B2c.cell_ 2
  have r3 := B2c.cell_ 3
  have r4 := B2c.cell_ 4
  simp at r0 r1 r2 r3 r4
  have t0 := B2c.free 0
  have t1 := B2c.free 1
  have t2 := B2c.free 2
  have t3 := B2c.free 3
  have t4 := B2c.free 4
  have hgE := st5_grown W9 (w.heap.size + 1) 0 (.int .i64 (s.nb + 1)) (.int .i64 s.nn) (.int .i64 s.ns) (.slice A7 (n + 1) c7) (.slice An6 s.ts.length cn6)
  have B1e := B1c.grown hgE (by omega)
  have B3e := B3c.grown hgE (by have := HZ5.out; have := HW5.out; omega)
  have B2e := B2c.st5_ (.int .i64 (s.nb + 1)) (.int .i64 s.nn) (.int .i64 s.ns) (.slice A7 (n + 1) c7) (.slice An6 s.ts.length cn6)
  have hNe := hNc.far hgE (by have := HW5.out; omega)
  have hOe := hOc.kept hgE (own_off hOc (by have := HW5.out; omega))
  have HBe := below_grown HBc hgE (by omega) HBc.size
  have z0 : ((st5 W9 (w.heap.size + 1) 0 (.int .i64 (s.nb + 1)) (.int .i64 s.nn) (.int .i64 s.ns) (.slice A7 (n + 1) c7) (.slice An6 s.ts.length cn6)).drew).cell? ⟨w.heap.size, 0, none⟩ = some (.int .i64 (s.nb + 1)) := drew_cell (B1e.cell_ 0)
  have z1 : ((st5 W9 (w.heap.size + 1) 0 (.int .i64 (s.nb + 1)) (.int .i64 s.nn) (.int .i64 s.ns) (.slice A7 (n + 1) c7) (.slice An6 s.ts.length cn6)).drew).cell? ⟨w.heap.size, 1, none⟩ = some (.int .i64 s.nn) := drew_cell (B1e.cell_ 1)
  have z2 : ((st5 W9 (w.heap.size + 1) 0 (.int .i64 (s.nb + 1)) (.int .i64 s.nn) (.int .i64 s.ns) (.slice A7 (n + 1) c7) (.slice An6 s.ts.length cn6)).drew).cell? ⟨w.heap.size, 2, none⟩ = some (.int .i64 s.ns) := drew_cell (B1e.cell_ 2)
  have z3 : ((st5 W9 (w.heap.size + 1) 0 (.int .i64 (s.nb + 1)) (.int .i64 s.nn) (.int .i64 s.ns) (.slice A7 (n + 1) c7) (.slice An6 s.ts.length cn6)).drew).cell? ⟨w.heap.size, 3, none⟩ = some (.slice A7 (n + 1) c7) := drew_cell (B1e.cell_ 3)
  have z4 : ((st5 W9 (w.heap.size + 1) 0 (.int .i64 (s.nb + 1)) (.int .i64 s.nn) (.int .i64 s.ns) (.slice A7 (n + 1) c7) (.slice An6 s.ts.length cn6)).drew).cell? ⟨w.heap.size, 4, none⟩ = some (.slice An6 s.ts.length cn6) := drew_cell (B1e.cell_ 4)
  have z5 : ((st5 W9 (w.heap.size + 1) 0 (.int .i64 (s.nb + 1)) (.int .i64 s.nn) (.int .i64 s.ns) (.slice A7 (n + 1) c7) (.slice An6 s.ts.length cn6)).drew).cell? ⟨Wd.heap.size, 0, none⟩ = some (.int .i64 s.nb) := drew_cell (B3e.cell_ 0)
  have HALL : Hid (Blk ((st5 W9 (w.heap.size + 1) 0 (.int .i64 (s.nb + 1)) (.int .i64 s.nn) (.int .i64 s.ns) (.slice A7 (n + 1) c7) (.slice An6 s.ts.length cn6)).drew) (w.heap.size + 1) 41 #[.int .i64 (s.nb + 1), .int .i64 s.nn, .int .i64 s.ns, .slice A7 (n + 1) c7, .slice An6 s.ts.length cn6] ∧ NtsW ((st5 W9 (w.heap.size + 1) 0 (.int .i64 (s.nb + 1)) (.int .i64 s.nn) (.int .i64 s.ns) (.slice A7 (n + 1) c7) (.slice An6 s.ts.length cn6)).drew) w5.heap.size (.slice An6 s.ts.length cn6) s.ts ∧ ((st5 W9 (w.heap.size + 1) 0 (.int .i64 (s.nb + 1)) (.int .i64 s.nn) (.int .i64 s.ns) (.slice A7 (n + 1) c7) (.slice An6 s.ts.length cn6)).drew).ownsRow w5.heap.size 101 2 (.slice A7 (n + 1) c7) (n + 1) ((s.bs.map bkC).flatten ++ bkC ⟨s.nb, x⟩) ∧ Below w.heap.size w ((st5 W9 (w.heap.size + 1) 0 (.int .i64 (s.nb + 1)) (.int .i64 s.nn) (.int .i64 s.ns) (.slice A7 (n + 1) c7) (.slice An6 s.ts.length cn6)).drew)) := Lib.hid ⟨drew_blk B2e, hNe.drew_, drew_own hOe, drew_below HBe⟩
  clear B1c B2c B3c hNc hOc HBc hgE B1e B3e B2e hNe hOe HBe
  refine wp_region_noPanic ?_
  refine wp_region_held_drew (S := (fun w_ => w_.cell? ⟨w.heap.size, 0, none⟩ = some (.int .i64 (s.nb + 1)) ∧ w_.cell? ⟨w.heap.size, 1, none⟩ = some (.int .i64 s.nn) ∧ w_.cell? ⟨w.heap.size, 2, none⟩ = some (.int .i64 s.ns) ∧ w_.cell? ⟨w.heap.size, 3, none⟩ = some (.slice A7 (n + 1) c7) ∧ w_.cell? ⟨w.heap.size, 4, none⟩ = some (.slice An6 s.ts.length cn6) ∧ w_.cell? ⟨Wd.heap.size, 0, none⟩ = some (.int .i64 s.nb))) (by kernel_rfl) ?_ (fun hHeld => ?_)
  · (first | with_reducible exact ⟨q0, q1, q2, q3, q4, q5⟩ | with_reducible exact QD | exact ⟨z0, z1, z2, z3, z4, z5⟩)
  refine tk 0 ?_; try simp only [Act.put, pz1, pz2, pz3]
  refine tk 1 ?_; try simp only [Act.put, pz1, pz2, pz3]
  refine tk 2 ?_; try simp only [Act.put, pz1, pz2, pz3]
  refine wpAnyH_ready (rs := [3]) (by kernel_rfl) (by simp) ?_
  refine AllReadyH.cons (o := ⟨none, .store 41 (.tmp 4) (.tmp 50), 0, "shelf.go:46", #[⟨0, .data⟩, ⟨0, .phase⟩, { on := 1, ground := Ground.textOnly Departure.lateStores }, { on := 2, ground := Ground.textOnly Departure.lateStores }], none⟩) rfl (fun K hK => ?_) AllReadyH.nil
  go_simp
  refine hK.out _ _ ?_ (fun hNew => ?_)
  · (first | with_reducible exact ⟨q0, q1, q2, q3, q4, q5⟩ | with_reducible exact QD | exact ⟨z0, z1, z2, z3, z4, z5⟩)
  clear hK K hHeld
  have hHeld := hNew
  clear hNew
  try simp only [Act.put, pz1, pz2, pz3]
  refine tk 4 ?_; try simp only [Act.put, pz1, pz2, pz3]
  refine tk 5 ?_; try simp only [Act.put, pz1, pz2, pz3]
  refine wpAnyH_done (by kernel_rfl) ?_ _
  refine NoPanic.normal ?_
  go_wp2_with fail
  obtain ⟨B2e, hNe, hOe, HBe⟩ := HALL.out
  change bodyPost _ _ _ _ _ ((st5 W9 (w.heap.size + 1) 0 (.int .i64 (s.nb + 1)) (.int .i64 s.nn) (.int .i64 s.ns) (.slice A7 (n + 1) c7) (.slice An6 s.ts.length cn6)).drew)
  generalize (st5 W9 (w.heap.size + 1) 0 (.int .i64 (s.nb + 1)) (.int .i64 s.nn) (.int .i64 s.ns) (.slice A7 (n + 1) c7) (.slice An6 s.ts.length cn6)).drew = WF at B2e hNe hOe HBe ⊢
  clear HALL z0 z1 z2 z3 z4 z5
  apply bodyPost_ret (v := .tuple #[.agg #[.int .i64 (s.nb + 1), .int .i64 s.nn, .int .i64 s.ns, .slice A7 (n + 1) c7, .slice An6 s.ts.length cn6], .int .i64 s.nb, .int .i64 0])
  · exact results_cell2 Tryz.results19 _ WF (w.heap.size + 1) 41 _ (0, 0) _ rfl B2e Tryz.underlying41 rfl (by kernel_rfl)
  · rfl
  · refine ⟨_, rfl, ?_, HBe⟩
    refine ShW.base_ (B := w5.heap.size) ?_ (by have := HW5.out; omega)
    refine ShW.make (s := makeS s x) (w := WF) (base := w5.heap.size) ?_ hNe
    have hl := HNN.out
    show WF.ownsRow _ _ _ _ (s.bs ++ [(⟨s.nb, x⟩ : Bk)]).length ((s.bs ++ [(⟨s.nb, x⟩ : Bk)]).map bkC).flatten
    rw [bk_snoc, List.length_append, hl]
    exact hOe
end Go.Proofs.YtnpinkbbkhllaaaGreatDoor
namespace Go.Proofs.YtnpinkbbkhllaaaGreatDoor
open Go.ChangeShapes Go.WideShapes Go.ChangeAt Go.RowKit
attribute [local go_sem ↓] Go.wp_at_zero Go.wp_at_succ
theorem sameItems_yes (L : List It) (A B : Option Addr) (n c d : Nat) (w : World) (hn : L.length = n) (n1 : n ≤ 1000000) (h1 : SlE 2 w w.heap.size A (L.map itC)) (h2 : SlE 2 w w.heap.size B (L.map itC)) : Calls Tryz.prog 16 #[.slice A n c, .slice B n d] w fun e' w' => e' = .returned (.bool true) ∧ Below w.heap.size w w' := by
  have HN := Lib.hid hn
  have H1 := Lib.hid h1
  have H2 := Lib.hid h2
  clear hn h1 h2
  go_enter Tryz.func16, Tryz.ntmps16
  go_wp2_with fail
  go_loopw [5] (fun s5 wr => ∃ k : Nat, k ≤ n ∧ s5 = .int .i64 (k : Int) ∧ Below w.heap.size w wr) (fun s5 _ => n - (intOf s5).toNat)
  case atStart => exact ⟨0, Nat.zero_le _, rfl, Below.refl _ _⟩
  case round =>
    obtain ⟨k, hk, rfl, hB⟩ := hrel
    by_cases hlt : k < n
    · have hlx : k < L.length := by have := HN.out; omega
      obtain ⟨b1, o1, rfl, l1, q1⟩ := (SlE.below H1.out hB).at_ (by rw [List.length_map]; omega)
      obtain ⟨b2, o2, rfl, l2, q2⟩ := (SlE.below H2.out hB).at_ (by rw [List.length_map]; omega)
      obtain ⟨x, hx⟩ : ∃ x, L[k]? = some x := ⟨_, List.getElem?_eq_getElem hlx⟩
      have he : (L.map itC)[k]? = some (itC x) := by rw [List.getElem?_map, hx]; rfl
      have x0 := q1 k _ he 0 _ rfl
      have x1 := q1 k _ he 1 _ rfl
      have y0 := q2 k _ he 0 _ rfl
      have y1 := q2 k _ he 1 _ rfl
      simp only [Nat.add_zero] at x0 y0
      have k0 : (0 : Int) ≤ (k : Int) := by omega
      have k1 : (k : Int) < (n : Int) := by omega
      clear hx he q1 q2 hlx
      go_upto_region 6 with fail
      refine wp_region_noPanic ?_
      refine wp_region_held_drew (S := (fun w_ => w_.cell? ⟨b1, o1 + k * 2, none⟩ = some (.int .i64 x.id) ∧ w_.cell? ⟨b1, o1 + k * 2 + 1, none⟩ = some (.string x.nm) ∧ w_.cell? ⟨b2, o2 + k * 2, none⟩ = some (.int .i64 x.id) ∧ w_.cell? ⟨b2, o2 + k * 2 + 1, none⟩ = some (.string x.nm))) (by kernel_rfl) ?_ (fun hHeld => ?_)
      · (first | exact ⟨x0, x1, y0, y1⟩ | assumption)
      refine tk 0 ?_; try simp only [Act.put, pz1, pz2, pz3]
      refine tk 1 ?_; try simp only [Act.put, pz1, pz2, pz3]
      refine tk 2 ?_; try simp only [Act.put, pz1, pz2, pz3]
      refine tk 3 ?_; try simp only [Act.put, pz1, pz2, pz3]
      refine tk 4 ?_; try simp only [Act.put, pz1, pz2, pz3]
      refine tk 5 ?_; try simp only [Act.put, pz1, pz2, pz3]
      refine tk 6 ?_; try simp only [Act.put, pz1, pz2, pz3]
      refine tk 7 ?_; try simp only [Act.put, pz1, pz2, pz3]
      refine tk 8 ?_; try simp only [Act.put, pz1, pz2, pz3]
      refine wpAnyH_done (by kernel_rfl) ?_ _
      refine NoPanic.normal ?_
      go_wp2_with fail
      go_roundw
      case rel => exact ⟨k + 1, by omega, by go_num, (by first | exact hB | exact drew_below hB)⟩
      case measure => simp [intOf]; omega
    · obtain rfl : k = n := by omega
      go_wp2_with fail
      go_ret
      exact ⟨rfl, hB⟩
end Go.Proofs.YtnpinkbbkhllaaaGreatDoor
namespace Go.Proofs.YtnpinkbbkhllaaaGreatDoor
open Go.ChangeShapes Go.WideShapes Go.ChangeAt Go.RowKit
attribute [local go_sem ↓] Go.wp_at_zero Go.wp_at_succ
def sA : ByteArray := ⟨#[97]⟩
def sB : ByteArray := ⟨#[98]⟩
def sf0 : Sf := ⟨1, 1, 1, [], []⟩
def sf1 : Sf := makeS sf0 sB
def sf2 : Sf := makeS sf1 sA
theorem may2 : mayS sf2 = true := by decide +kernel
theorem ShR.zero (w : World) : ShR w w.heap.size (.agg #[.int .i64 1, .int .i64 1, .int .i64 1, .slice none 0 0, .slice none 0 0]) sf0 := ⟨none, 0, none, 0, rfl, Or.inl rfl, ⟨[], rfl, Or.inl rfl, fun k n e h => by simp [sf0] at h⟩, by decide, by decide, by decide, by decide⟩
end Go.Proofs.YtnpinkbbkhllaaaGreatDoor
namespace Go.Proofs.YtnpinkbbkhllaaaGreatDoor
open Go.ChangeShapes Go.WideShapes Go.ChangeAt Go.RowKit
attribute [local go_sem ↓] Go.wp_at_zero Go.wp_at_succ
structure DInv {α : Type} (ps : List (α × List Value)) (p : α → Bool) (i j : Nat) (qs : List (α × List Value)) : Prop where
  len : qs.length = ps.length
  tk : qs.take i = (ps.take j).filter (fun x => !p x.1)
  il : i = ((ps.take j).filter (fun x => !p x.1)).length
  dr : qs.drop j = ps.drop j
  lt : i < j
  le : j ≤ ps.length
theorem DInv.start {α : Type} {ps : List (α × List Value)} {p : α → Bool} {k : Nat} {x : α × List Value} (h : (ps.take k).any (fun y => p y.1) = false) (hk : ps[k]? = some x) (hp : p x.1 = true) : DInv ps p k (k + 1) ps := by
  have hlt := (List.getElem?_eq_some_iff.1 hk).1
  have h1 : (ps.take (k + 1)).filter (fun x => !p x.1) = ps.take k := by
    rw [List.take_add_one, hk, List.filter_append]
    have h2 : (ps.take k).filter (fun x => !p x.1) = ps.take k := by
      rw [List.filter_eq_self]
      intro a ha
      have := List.any_eq_false.1 h a ha
      simpa using this
    rw [h2]
    simp [hp]
  exact ⟨rfl, h1.symm, by rw [h1, List.length_take]; omega, rfl, by omega, by omega⟩
theorem DInv.get {α : Type} {ps qs : List (α × List Value)} {p : α → Bool} {i j : Nat} (h : DInv ps p i j qs) {x : α × List Value} (hx : ps[j]? = some x) : qs[j]? = some x := by
  have h1 : (qs.drop j)[0]? = (ps.drop j)[0]? := by rw [h.dr]
  rw [List.getElem?_drop, List.getElem?_drop] at h1
  simpa [hx] using h1
theorem DInv.keep {α : Type} {ps qs : List (α × List Value)} {p : α → Bool} {i j : Nat} (h : DInv ps p i j qs) {x : α × List Value} (hx : ps[j]? = some x) (hp : p x.1 = false) : DInv ps p (i + 1) (j + 1) (qs.set i x) := by
  have hlt := (List.getElem?_eq_some_iff.1 hx).1
  have hl := h.len
  have hij := h.lt
  have h1 : (ps.take (j + 1)).filter (fun x => !p x.1) = (ps.take j).filter (fun x => !p x.1) ++ [x] := filter_yes hx (by simp [hp])
  refine ⟨by rw [List.length_set]; exact hl, ?_, by rw [h1, List.length_append, ← h.il]; rfl, ?_, by omega, by omega⟩
  · rw [h1, ← h.tk, List.take_add_one, List.getElem?_set]
    rw [if_pos rfl, if_pos (by omega), List.take_set_of_le (Nat.le_refl _)]
    rfl
  · rw [List.drop_set_of_lt (by omega), ← List.drop_drop, h.dr, List.drop_drop]
theorem DInv.skip {α : Type} {ps qs : List (α × List Value)} {p : α → Bool} {i j : Nat} (h : DInv ps p i j qs) {x : α × List Value} (hx : ps[j]? = some x) (hp : p x.1 = true) : DInv ps p i (j + 1) qs := by
  have hlt := (List.getElem?_eq_some_iff.1 hx).1
  have h1 : (ps.take (j + 1)).filter (fun x => !p x.1) = (ps.take j).filter (fun x => !p x.1) := filter_no hx (by simp [hp])
  have := h.lt
  exact ⟨h.len, by rw [h1]; exact h.tk, by rw [h1]; exact h.il, by rw [← List.drop_drop, h.dr, List.drop_drop], by omega, by omega⟩
def st2 (w : World) (g o : Nat) (a0 a1 : Value) : World := World.setCell (World.setCell w ⟨g, o, none⟩ a0) ⟨g, o + 1, none⟩ a1
end Go.Proofs.YtnpinkbbkhllaaaGreatDoor
namespace Go.Proofs.YtnpinkbbkhllaaaGreatDoor
open Go.ChangeShapes Go.WideShapes Go.ChangeAt Go.RowKit
attribute [local go_sem ↓] Go.wp_at_zero Go.wp_at_succ
end Go.Proofs.YtnpinkbbkhllaaaGreatDoor
namespace Go.Proofs.YtnpinkbbkhllaaaGreatDoor
open Go.ChangeShapes Go.WideShapes Go.ChangeAt Go.RowKit
attribute [local go_sem ↓] Go.wp_at_zero Go.wp_at_succ
def dropC (s : Sf) (x : Int) : Int := cond (mayS s) (cond (decide (bookAt s x < 0)) 4 0) 2
def dropS (s : Sf) (x : Int) : Sf := { s with bs := s.bs.filter (fun b => !(b.id == x)), ts := s.ts.filter (fun n => !(n.bk == x)) }
def discC (s : Sf) (x : Int) : Int := cond (mayS s) (cond (decide (noteAt s x < 0)) 4 0) 2
def discS (s : Sf) (x : Int) : Sf := { s with ts := s.ts.filter (fun n => !(n.id == x)) }
end Go.Proofs.YtnpinkbbkhllaaaGreatDoor
namespace Go.Proofs.YtnpinkbbkhllaaaGreatDoor
open Go.ChangeShapes Go.WideShapes Go.ChangeAt Go.RowKit
attribute [local go_sem ↓] Go.wp_at_zero Go.wp_at_succ
theorem below_dr (w : World) : Below w.heap.size w w.drew := below_dn (Below.refl w.heap.size w) 1
theorem sameBooks_yes (L : List Bk) (A B : Option Addr) (c d : Nat) (w : World) (n1 : L.length ≤ 1000000) (h1 : BksIn w w.heap.size A L) (h2 : BksIn w w.heap.size B L) : Calls Tryz.prog 37 #[.slice A L.length c, .slice B L.length d] w fun e' w' => e' = .returned (.bool true) ∧ Below w.heap.size w w' := by
  obtain ⟨n, hn⟩ : ∃ n, L.length = n := ⟨_, rfl⟩
  rw [hn] at n1 ⊢
  have HN := Lib.hid hn
  have H1 := Lib.hid h1
  have H2 := Lib.hid h2
  clear hn h1 h2
  go_enter Tryz.func37, Tryz.ntmps37
  go_wp2_with fail
  go_loopw [5] (fun s5 wr => ∃ k : Nat, k ≤ n ∧ s5 = .int .i64 (k : Int) ∧ Below w.heap.size w wr) (fun s5 _ => n - (intOf s5).toNat)
  case atStart => exact ⟨0, Nat.zero_le _, rfl, Below.refl _ _⟩
  case round =>
    obtain ⟨k, hk, rfl, hB⟩ := hrel
    by_cases hlt : k < n
    · have hlx : k < L.length := by have := HN.out; omega
      obtain ⟨b1, o1, rfl, l1, q1⟩ := (SlE.below H1.out hB).at_ (by rw [List.length_map]; omega)
      obtain ⟨b2, o2, rfl, l2, q2⟩ := (SlE.below H2.out hB).at_ (by rw [List.length_map]; omega)
      obtain ⟨x, hx⟩ : ∃ x, L[k]? = some x := ⟨_, List.getElem?_eq_getElem hlx⟩
      have he : (L.map bkC)[k]? = some (bkC x) := by rw [List.getElem?_map, hx]; rfl
      have x0 := q1 k _ he 0 _ rfl
      have x1 := q1 k _ he 1 _ rfl
      have y0 := q2 k _ he 0 _ rfl
      have y1 := q2 k _ he 1 _ rfl
      simp only [Nat.add_zero] at x0 y0
      clear he
      have k0 : (0 : Int) ≤ (k : Int) := by omega
      have k1 : (k : Int) < (n : Int) := by omega
      clear hx q1 q2 hlx
      go_upto_region 6 with fail
      refine wp_region_noPanic ?_
      refine wp_region_held_drew (S := (fun w_ => w_.cell? ⟨b1, o1 + k * 2, none⟩ = some (.int .i64 x.id) ∧ w_.cell? ⟨b1, o1 + k * 2 + 1, none⟩ = some (.string x.nm) ∧ w_.cell? ⟨b2, o2 + k * 2, none⟩ = some (.int .i64 x.id) ∧ w_.cell? ⟨b2, o2 + k * 2 + 1, none⟩ = some (.string x.nm))) (by kernel_rfl) ?_ (fun hHeld => ?_)
      · (first | exact ⟨x0, x1, y0, y1⟩ | assumption)
      refine tk 0 ?_; try simp only [Act.put, pz1, pz2, pz3]
      refine tk 1 ?_; try simp only [Act.put, pz1, pz2, pz3]
      refine tk 2 ?_; try simp only [Act.put, pz1, pz2, pz3]
      refine tk 3 ?_; try simp only [Act.put, pz1, pz2, pz3]
      refine tk 4 ?_; try simp only [Act.put, pz1, pz2, pz3]
      refine tk 5 ?_; try simp only [Act.put, pz1, pz2, pz3]
      refine tk 6 ?_; try simp only [Act.put, pz1, pz2, pz3]
      refine tk 7 ?_; try simp only [Act.put, pz1, pz2, pz3]
      refine tk 8 ?_; try simp only [Act.put, pz1, pz2, pz3]
      refine wpAnyH_done (by kernel_rfl) ?_ _
      refine NoPanic.normal ?_
      go_wp2_with fail
      go_roundw
      case rel => exact ⟨k + 1, by omega, by go_num, (by first | exact hB | exact drew_below hB)⟩
      case measure => simp [intOf]; omega
    · obtain rfl : k = n := by omega
      go_wp2_with fail
      go_ret
      exact ⟨rfl, hB⟩
theorem sameTexts_yes (L : List ByteArray) (A B : Option Addr) (c d : Nat) (w : World) (n1 : L.length ≤ 1000000) (h1 : Sl w w.heap.size A (L.map strV)) (h2 : Sl w w.heap.size B (L.map strV)) : Calls Tryz.prog 17 #[.slice A L.length c, .slice B L.length d] w fun e' w' => e' = .returned (.bool true) ∧ Below w.heap.size w w' := by
  obtain ⟨n, hn⟩ : ∃ n, L.length = n := ⟨_, rfl⟩
  rw [hn] at n1 ⊢
  have HN := Lib.hid hn
  have H1 := Lib.hid h1
  have H2 := Lib.hid h2
  clear hn h1 h2
  go_enter Tryz.func17, Tryz.ntmps17
  go_wp2_with fail
  go_loopw [5] (fun s5 wr => ∃ k : Nat, k ≤ n ∧ s5 = .int .i64 (k : Int) ∧ Below w.heap.size w wr) (fun s5 _ => n - (intOf s5).toNat)
  case atStart => exact ⟨0, Nat.zero_le _, rfl, Below.refl _ _⟩
  case round =>
    obtain ⟨k, hk, rfl, hB⟩ := hrel
    by_cases hlt : k < n
    · have hlx : k < L.length := by have := HN.out; omega
      obtain ⟨b1, o1, rfl, l1, q1⟩ := (Sl.below H1.out hB).at_ (by rw [List.length_map]; omega)
      obtain ⟨b2, o2, rfl, l2, q2⟩ := (Sl.below H2.out hB).at_ (by rw [List.length_map]; omega)
      obtain ⟨x, hx⟩ : ∃ x, L[k]? = some x := ⟨_, List.getElem?_eq_getElem hlx⟩
      have x0 := q1 k (.string x) (by rw [List.getElem?_map, hx]; rfl)
      have y0 := q2 k (.string x) (by rw [List.getElem?_map, hx]; rfl)
      have k0 : (0 : Int) ≤ (k : Int) := by omega
      have k1 : (k : Int) < (n : Int) := by omega
      clear hx q1 q2 hlx
      go_upto_region 6 with fail
      refine wp_region_noPanic ?_
      refine wp_region_held_drew (S := (fun w_ => w_.cell? ⟨b1, o1 + k, none⟩ = some (.string x) ∧ w_.cell? ⟨b2, o2 + k, none⟩ = some (.string x))) (by kernel_rfl) ?_ (fun hHeld => ?_)
      · (first | exact ⟨x0, y0⟩ | assumption)
      refine tk 0 ?_; try simp only [Act.put, pz1, pz2, pz3]
      refine tk 1 ?_; try simp only [Act.put, pz1, pz2, pz3]
      refine tk 2 ?_; try simp only [Act.put, pz1, pz2, pz3]
      refine tk 3 ?_; try simp only [Act.put, pz1, pz2, pz3]
      refine tk 4 ?_; try simp only [Act.put, pz1, pz2, pz3]
      refine tk 5 ?_; try simp only [Act.put, pz1, pz2, pz3]
      refine tk 6 ?_; try simp only [Act.put, pz1, pz2, pz3]
      refine tk 7 ?_; try simp only [Act.put, pz1, pz2, pz3]
      refine tk 8 ?_; try simp only [Act.put, pz1, pz2, pz3]
      refine wpAnyH_done (by kernel_rfl) ?_ _
      refine NoPanic.normal ?_
      go_wp2_with fail
      go_roundw
      case rel => exact ⟨k + 1, by omega, by go_num, (by first | exact hB | exact drew_below hB)⟩
      case measure => simp [intOf]; omega
    · obtain rfl : k = n := by omega
      go_wp2_with fail
      go_ret
      exact ⟨rfl, hB⟩
theorem sameInts_yes (L : List Int) (A B : Option Addr) (c d : Nat) (w : World) (n1 : L.length ≤ 1000000) (h1 : Sl w w.heap.size A (L.map (Value.int .i64))) (h2 : Sl w w.heap.size B (L.map (Value.int .i64))) : Calls Tryz.prog 77 #[.slice A L.length c, .slice B L.length d] w fun e' w' => e' = .returned (.bool true) ∧ Below w.heap.size w w' := by
  obtain ⟨n, hn⟩ : ∃ n, L.length = n := ⟨_, rfl⟩
  rw [hn] at n1 ⊢
  have HN := Lib.hid hn
  have H1 := Lib.hid h1
  have H2 := Lib.hid h2
  clear hn h1 h2
  go_enter Tryz.func77, Tryz.ntmps77
  go_wp2_with fail
  go_loopw [5] (fun s5 wr => ∃ k : Nat, k ≤ n ∧ s5 = .int .i64 (k : Int) ∧ Below w.heap.size w wr) (fun s5 _ => n - (intOf s5).toNat)
  case atStart => exact ⟨0, Nat.zero_le _, rfl, Below.refl _ _⟩
  case round =>
    obtain ⟨k, hk, rfl, hB⟩ := hrel
    by_cases hlt : k < n
    · have hlx : k < L.length := by have := HN.out; omega
      obtain ⟨b1, o1, rfl, l1, q1⟩ := (Sl.below H1.out hB).at_ (by rw [List.length_map]; omega)
      obtain ⟨b2, o2, rfl, l2, q2⟩ := (Sl.below H2.out hB).at_ (by rw [List.length_map]; omega)
      obtain ⟨x, hx⟩ : ∃ x, L[k]? = some x := ⟨_, List.getElem?_eq_getElem hlx⟩
      have x0 := q1 k (.int .i64 x) (by rw [List.getElem?_map, hx]; rfl)
      have y0 := q2 k (.int .i64 x) (by rw [List.getElem?_map, hx]; rfl)
      have k0 : (0 : Int) ≤ (k : Int) := by omega
      have k1 : (k : Int) < (n : Int) := by omega
      clear hx q1 q2 hlx
      go_upto_region 6 with fail
      refine wp_region_noPanic ?_
      refine wp_region_held_drew (S := (fun w_ => w_.cell? ⟨b1, o1 + k, none⟩ = some (.int .i64 x) ∧ w_.cell? ⟨b2, o2 + k, none⟩ = some (.int .i64 x))) (by kernel_rfl) ?_ (fun hHeld => ?_)
      · (first | exact ⟨x0, y0⟩ | assumption)
      refine tk 0 ?_; try simp only [Act.put, pz1, pz2, pz3]
      refine tk 1 ?_; try simp only [Act.put, pz1, pz2, pz3]
      refine tk 2 ?_; try simp only [Act.put, pz1, pz2, pz3]
      refine tk 3 ?_; try simp only [Act.put, pz1, pz2, pz3]
      refine tk 4 ?_; try simp only [Act.put, pz1, pz2, pz3]
      refine tk 5 ?_; try simp only [Act.put, pz1, pz2, pz3]
      refine tk 6 ?_; try simp only [Act.put, pz1, pz2, pz3]
      refine tk 7 ?_; try simp only [Act.put, pz1, pz2, pz3]
      refine tk 8 ?_; try simp only [Act.put, pz1, pz2, pz3]
      refine wpAnyH_done (by kernel_rfl) ?_ _
      refine NoPanic.normal ?_
      go_wp2_with fail
      go_roundw
      case rel => exact ⟨k + 1, by omega, by go_num, (by first | exact hB | exact drew_below hB)⟩
      case measure => simp [intOf]; omega
    · obtain rfl : k = n := by omega
      go_wp2_with fail
      go_ret
      exact ⟨rfl, hB⟩
theorem sameNote_yes (n : Nt) (A1 A2 A3 A4 : Option Addr) (c1 c2 c3 c4 : Nat) (w : World) (h1 : Sl w w.heap.size A1 (n.tg.map strV)) (h2 : Sl w w.heap.size A2 (n.sh.map (Value.int .i64))) (h3 : Sl w w.heap.size A3 (n.tg.map strV)) (h4 : Sl w w.heap.size A4 (n.sh.map (Value.int .i64))) (m1 : n.tg.length ≤ 100000) (m2 : n.sh.length ≤ 100000) : Calls Tryz.prog 38 #[.agg #[.int .i64 n.id, .int .i64 n.bk, .string n.nm, .slice A1 n.tg.length c1, .slice A2 n.sh.length c2], .agg #[.int .i64 n.id, .int .i64 n.bk, .string n.nm, .slice A3 n.tg.length c3, .slice A4 n.sh.length c4]] w fun e' w' => e' = .returned (.bool true) ∧ Below w.heap.size w w' := by
  have HB : Below w.heap.size w ((w.alloc (.cells #[.int .i64 n.id, .int .i64 n.bk, .string n.nm, .slice A1 n.tg.length c1, .slice A2 n.sh.length c2] 83)).alloc (.cells #[.int .i64 n.id, .int .i64 n.bk, .string n.nm, .slice A3 n.tg.length c3, .slice A4 n.sh.length c4] 83)) := (((Below.refl w.heap.size w).alloc (by first | (simp; done) | (simp; omega)) _).alloc (by first | (simp; done) | (simp; omega)) _)
  have B1 : Blk ((w.alloc (.cells #[.int .i64 n.id, .int .i64 n.bk, .string n.nm, .slice A1 n.tg.length c1, .slice A2 n.sh.length c2] 83)).alloc (.cells #[.int .i64 n.id, .int .i64 n.bk, .string n.nm, .slice A3 n.tg.length c3, .slice A4 n.sh.length c4] 83)) w.heap.size 83 #[.int .i64 n.id, .int .i64 n.bk, .string n.nm, .slice A1 n.tg.length c1, .slice A2 n.sh.length c2] := (Blk.new_ w 83 #[.int .i64 n.id, .int .i64 n.bk, .string n.nm, .slice A1 n.tg.length c1, .slice A2 n.sh.length c2]).alloc_ _
  have B2 : Blk ((w.alloc (.cells #[.int .i64 n.id, .int .i64 n.bk, .string n.nm, .slice A1 n.tg.length c1, .slice A2 n.sh.length c2] 83)).alloc (.cells #[.int .i64 n.id, .int .i64 n.bk, .string n.nm, .slice A3 n.tg.length c3, .slice A4 n.sh.length c4] 83)) (w.heap.size + 1) 83 #[.int .i64 n.id, .int .i64 n.bk, .string n.nm, .slice A3 n.tg.length c3, .slice A4 n.sh.length c4] := by
    have := Blk.new_ (w.alloc (.cells #[.int .i64 n.id, .int .i64 n.bk, .string n.nm, .slice A1 n.tg.length c1, .slice A2 n.sh.length c2] 83)) 83 #[.int .i64 n.id, .int .i64 n.bk, .string n.nm, .slice A3 n.tg.length c3, .slice A4 n.sh.length c4]
    first | (simp; done) | simpa using this
  have S1 := h1.next HB
  have S2 := h2.next HB
  have S3 := h3.next HB
  have S4 := h4.next HB
  clear h1 h2 h3 h4
  go_enter Tryz.func38, Tryz.ntmps38
  go_wp2_with (first | (go_at_call 17; ((with_reducible refine (sameTexts_yes n.tg _ _ _ _ _ (by omega) S1 S3).mono ?_); rintro e' w3 ⟨rfl, bx⟩; have B1 := B1.below bx B1.lt; have B2 := B2.below bx B2.lt; have HB := btr HB HB.size bx; have S2 := S2.next bx; have S4 := S4.next bx; have S1 := S1.next bx; have S3 := S3.next bx; (try clear k0 k1 k2 k3 k4 r0 r1 r2 r3 r4); have k0 := B1.cell_ 0; have r0 := B2.cell_ 0; have k1 := B1.cell_ 1; have r1 := B2.cell_ 1; have k2 := B1.cell_ 2; have r2 := B2.cell_ 2; have k3 := B1.cell_ 3; have r3 := B2.cell_ 3; have k4 := B1.cell_ 4; have r4 := B2.cell_ 4; simp at k0 k1 k2 k3 k4 r0 r1 r2 r3 r4; clear bx)) | (go_at_call 77; ((with_reducible refine (sameInts_yes n.sh _ _ _ _ _ (by omega) S2 S4).mono ?_); rintro e' w4 ⟨rfl, bx⟩; have HB := btr HB HB.size bx)))
  go_ret
  exact ⟨rfl, HB⟩
theorem sameShelf_yes (s : Sf) (v1 v2 : Value) (w : World) (h1 : ShR w w.heap.size v1 s) (h2 : ShR w w.heap.size v2 s) (m0 : s.bs.length ≤ 100000) (m1 : s.ts.length ≤ 100000) (m2 : ∀ n ∈ s.ts, n.tg.length ≤ 100000 ∧ n.sh.length ≤ 100000) : Calls Tryz.prog 7 #[v1, v2] w fun e' w' => e' = .returned (.bool true) ∧ Below w.heap.size w w' := by
  obtain ⟨Ab, cb, An, cn, rfl, hB, hN, hcb, hmb, hcn, hmn⟩ := h1.ex
  obtain ⟨Ab2, cb2, An2, cn2, rfl, hB2, hN2, hcb2, hmb2, hcn2, hmn2⟩ := h2.ex
  obtain ⟨es, hel, hse, hnt⟩ := hN.ex
  obtain ⟨es2, hel2, hse2, hnt2⟩ := hN2.ex
  have HB : Below w.heap.size w ((w.alloc (.cells #[.int .i64 s.nb, .int .i64 s.nn, .int .i64 s.ns, .slice Ab s.bs.length cb, .slice An s.ts.length cn] 41)).alloc (.cells #[.int .i64 s.nb, .int .i64 s.nn, .int .i64 s.ns, .slice Ab2 s.bs.length cb2, .slice An2 s.ts.length cn2] 41)) := (((Below.refl w.heap.size w).alloc (by first | (simp; done) | (simp; omega)) _).alloc (by first | (simp; done) | (simp; omega)) _)
  have B1 : Blk ((w.alloc (.cells #[.int .i64 s.nb, .int .i64 s.nn, .int .i64 s.ns, .slice Ab s.bs.length cb, .slice An s.ts.length cn] 41)).alloc (.cells #[.int .i64 s.nb, .int .i64 s.nn, .int .i64 s.ns, .slice Ab2 s.bs.length cb2, .slice An2 s.ts.length cn2] 41)) w.heap.size 41 #[.int .i64 s.nb, .int .i64 s.nn, .int .i64 s.ns, .slice Ab s.bs.length cb, .slice An s.ts.length cn] := (Blk.new_ w 41 #[.int .i64 s.nb, .int .i64 s.nn, .int .i64 s.ns, .slice Ab s.bs.length cb, .slice An s.ts.length cn]).alloc_ _
  have B2 : Blk ((w.alloc (.cells #[.int .i64 s.nb, .int .i64 s.nn, .int .i64 s.ns, .slice Ab s.bs.length cb, .slice An s.ts.length cn] 41)).alloc (.cells #[.int .i64 s.nb, .int .i64 s.nn, .int .i64 s.ns, .slice Ab2 s.bs.length cb2, .slice An2 s.ts.length cn2] 41)) (w.heap.size + 1) 41 #[.int .i64 s.nb, .int .i64 s.nn, .int .i64 s.ns, .slice Ab2 s.bs.length cb2, .slice An2 s.ts.length cn2] := by
    have := Blk.new_ (w.alloc (.cells #[.int .i64 s.nb, .int .i64 s.nn, .int .i64 s.ns, .slice Ab s.bs.length cb, .slice An s.ts.length cn] 41)) 41 #[.int .i64 s.nb, .int .i64 s.nn, .int .i64 s.ns, .slice Ab2 s.bs.length cb2, .slice An2 s.ts.length cn2]
    first | (simp; done) | simpa using this
  have R1 : BksIn ((w.alloc (.cells #[.int .i64 s.nb, .int .i64 s.nn, .int .i64 s.ns, .slice Ab s.bs.length cb, .slice An s.ts.length cn] 41)).alloc (.cells #[.int .i64 s.nb, .int .i64 s.nn, .int .i64 s.ns, .slice Ab2 s.bs.length cb2, .slice An2 s.ts.length cn2] 41)) (((w.alloc (.cells #[.int .i64 s.nb, .int .i64 s.nn, .int .i64 s.ns, .slice Ab s.bs.length cb, .slice An s.ts.length cn] 41)).alloc (.cells #[.int .i64 s.nb, .int .i64 s.nn, .int .i64 s.ns, .slice Ab2 s.bs.length cb2, .slice An2 s.ts.length cn2] 41))).heap.size Ab s.bs := SlE.next hB HB
  have R2 : BksIn ((w.alloc (.cells #[.int .i64 s.nb, .int .i64 s.nn, .int .i64 s.ns, .slice Ab s.bs.length cb, .slice An s.ts.length cn] 41)).alloc (.cells #[.int .i64 s.nb, .int .i64 s.nn, .int .i64 s.ns, .slice Ab2 s.bs.length cb2, .slice An2 s.ts.length cn2] 41)) (((w.alloc (.cells #[.int .i64 s.nb, .int .i64 s.nn, .int .i64 s.ns, .slice Ab s.bs.length cb, .slice An s.ts.length cn] 41)).alloc (.cells #[.int .i64 s.nb, .int .i64 s.nn, .int .i64 s.ns, .slice Ab2 s.bs.length cb2, .slice An2 s.ts.length cn2] 41))).heap.size Ab2 s.bs := SlE.next hB2 HB
  have HM := Lib.hid m2
  have HEL := Lib.hid hel
  have HEL2 := Lib.hid hel2
  have HNT := Lib.hid hnt
  have HNT2 := Lib.hid hnt2
  clear h1 h2 hN hN2 hB hB2 hcb hmb hcn hmn hcb2 hmb2 hcn2 hmn2 m2 hel hel2 hnt hnt2
  go_enter Tryz.func7, Tryz.ntmps7
  go_wp2_with (go_at_call 37; ((with_reducible refine (sameBooks_yes s.bs _ _ _ _ _ (by omega) R1 R2).mono ?_); rintro e' w3 ⟨rfl, bx⟩; have B1 := B1.below bx B1.lt; have B2 := B2.below bx B2.lt; have HB := btr HB HB.size bx; (try clear k0 k1 k2 k3 k4 r0 r1 r2 r3 r4); have k0 := B1.cell_ 0; have r0 := B2.cell_ 0; have k1 := B1.cell_ 1; have r1 := B2.cell_ 1; have k2 := B1.cell_ 2; have r2 := B2.cell_ 2; have k3 := B1.cell_ 3; have r3 := B2.cell_ 3; have k4 := B1.cell_ 4; have r4 := B2.cell_ 4; simp at k0 k1 k2 k3 k4 r0 r1 r2 r3 r4; clear bx))
  go_loopw [5] (fun s5 wr => ∃ k : Nat, k ≤ s.ts.length ∧ s5 = .int .i64 (k : Int) ∧ Below w3.heap.size w3 wr) (fun s5 _ => s.ts.length - (intOf s5).toNat)
  case atStart => exact ⟨0, Nat.zero_le _, rfl, Below.refl _ _⟩
  case round =>
    obtain ⟨k, hk, rfl, hbr⟩ := hrel
    have HBr := btr HB HB.size hbr
    have C1 := B1.below hbr B1.lt
    have C2 := B2.below hbr B2.lt
    clear k0 k1 k2 k3 k4 r0 r1 r2 r3 r4 B1 B2 HB R1 R2
    have k4 := C1.cell_ 4
    have r4 := C2.cell_ 4
    simp at k4 r4
    by_cases hlt : k < s.ts.length
    · obtain ⟨n, hn⟩ : ∃ n, s.ts[k]? = some n := ⟨_, List.getElem?_eq_getElem hlt⟩
      obtain ⟨e1, he1⟩ : ∃ e, es[k]? = some e := ⟨_, List.getElem?_eq_getElem (by have := HEL.out; omega)⟩
      obtain ⟨e2, he2⟩ : ∃ e, es2[k]? = some e := ⟨_, List.getElem?_eq_getElem (by have := HEL2.out; omega)⟩
      obtain ⟨A1, c1, A2, c2, rfl, p1, p2, -⟩ := (HNT.out k n e1 hn he1).ex
      obtain ⟨A3, c3, A4, c4, rfl, p3, p4, -⟩ := (HNT2.out k n e2 hn he2).ex
      obtain ⟨b1, o1, rfl, l1, q1⟩ := hse.at_ (by have := HEL.out; omega)
      obtain ⟨b2, o2, rfl, l2, q2⟩ := hse2.at_ (by have := HEL2.out; omega)
      have x0 : wr.cell? ⟨b1, o1 + k * 5 + 0, none⟩ = some (.int .i64 n.id) := (HBr.cell (p := ⟨b1, _, none⟩) l1).trans (q1 k _ he1 0 _ rfl)
      have x1 : wr.cell? ⟨b1, o1 + k * 5 + 1, none⟩ = some (.int .i64 n.bk) := (HBr.cell (p := ⟨b1, _, none⟩) l1).trans (q1 k _ he1 1 _ rfl)
      have x2 : wr.cell? ⟨b1, o1 + k * 5 + 2, none⟩ = some (.string n.nm) := (HBr.cell (p := ⟨b1, _, none⟩) l1).trans (q1 k _ he1 2 _ rfl)
      have x3 : wr.cell? ⟨b1, o1 + k * 5 + 3, none⟩ = some (.slice A1 n.tg.length c1) := (HBr.cell (p := ⟨b1, _, none⟩) l1).trans (q1 k _ he1 3 _ rfl)
      have x4 : wr.cell? ⟨b1, o1 + k * 5 + 4, none⟩ = some (.slice A2 n.sh.length c2) := (HBr.cell (p := ⟨b1, _, none⟩) l1).trans (q1 k _ he1 4 _ rfl)
      have y0 : wr.cell? ⟨b2, o2 + k * 5 + 0, none⟩ = some (.int .i64 n.id) := (HBr.cell (p := ⟨b2, _, none⟩) l2).trans (q2 k _ he2 0 _ rfl)
      have y1 : wr.cell? ⟨b2, o2 + k * 5 + 1, none⟩ = some (.int .i64 n.bk) := (HBr.cell (p := ⟨b2, _, none⟩) l2).trans (q2 k _ he2 1 _ rfl)
      have y2 : wr.cell? ⟨b2, o2 + k * 5 + 2, none⟩ = some (.string n.nm) := (HBr.cell (p := ⟨b2, _, none⟩) l2).trans (q2 k _ he2 2 _ rfl)
      have y3 : wr.cell? ⟨b2, o2 + k * 5 + 3, none⟩ = some (.slice A3 n.tg.length c3) := (HBr.cell (p := ⟨b2, _, none⟩) l2).trans (q2 k _ he2 3 _ rfl)
      have y4 : wr.cell? ⟨b2, o2 + k * 5 + 4, none⟩ = some (.slice A4 n.sh.length c4) := (HBr.cell (p := ⟨b2, _, none⟩) l2).trans (q2 k _ he2 4 _ rfl)
      simp only [Nat.add_zero] at x0 y0
      have hm := HM.out n (List.mem_of_getElem? hn)
      have hm1 := hm.1
      have hm2 := hm.2
      have k0 : (0 : Int) ≤ (k : Int) := by omega
      have k1 : (k : Int) < (s.ts.length : Int) := by omega
      have D := below_dr wr
      have P1 := (((p1.below HBr).mono_ HBr.size).next D)
      have P2 := (((p2.below HBr).mono_ HBr.size).next D)
      have P3 := (((p3.below HBr).mono_ HBr.size).next D)
      have P4 := (((p4.below HBr).mono_ HBr.size).next D)
      have HBd := btr HBr HBr.size D
      have hbd := btr hbr hbr.size D
      clear hn he1 he2 q1 q2 hm p1 p2 p3 p4 D
      go_upto_region 6 with fail
      go_still_tail 10, (by kernel_rfl)
      change wpList _ _ _ _ _ wr.drew
      obtain ⟨wd, hwd⟩ : ∃ V : World, V = wr.drew := ⟨_, rfl⟩
      rw [← hwd] at P1 P2 P3 P4 HBd hbd ⊢
      clear hwd
      go_wp2_with (go_at_call 38; ((with_reducible refine (sameNote_yes n _ _ _ _ _ _ _ _ _ P1 P2 P3 P4 hm1 hm2).mono ?_); rintro e' w5 ⟨rfl, bx⟩; have hbe := btr hbd hbd.size bx; clear bx))
      go_roundw
      case rel => exact ⟨k + 1, by omega, by go_num, hbe⟩
      case measure => simp [intOf]; omega
    · obtain rfl : k = s.ts.length := by omega
      go_wp2_with fail
      go_ret
      exact ⟨rfl, HBr⟩
end Go.Proofs.YtnpinkbbkhllaaaGreatDoor
namespace Go.Proofs.YtnpinkbbkhllaaaGreatDoor
open Go.ChangeShapes Go.WideShapes Go.ChangeAt Go.RowKit
attribute [local go_sem ↓] Go.wp_at_zero Go.wp_at_succ
theorem inI_of {x lo hi : Int} (h1 : lo ≤ x) (h2 : x ≤ hi) : inI x lo hi = true := by
  unfold inI
  rw [decide_eq_true h1, decide_eq_true h2]
  rfl
theorem books_conv {s : Sf} : ∀ (l : List Bk) (bf : Int), (∀ b ∈ l, bf < b.id ∧ b.id ≤ s.nb - 1 ∧ mayN b.nm = true ∧ bookTk s b.nm b.id = false) → (l.Pairwise fun a b => a.id < b.id) → booksFrom s bf l = true
  | [], _, _, _ => rfl
  | x :: l, bf, h, hp => by
    obtain ⟨h1, h2, h3, h4⟩ := h x (by simp)
    rw [List.pairwise_cons] at hp
    show (inI x.id (bf + 1) (s.nb - 1) && (mayN x.nm && (!bookTk s x.nm x.id && booksFrom s x.id l))) = true
    rw [inI_of (by omega) h2, h3, h4, books_conv l x.id (fun b hb => ⟨hp.1 b hb, (h b (by simp [hb])).2⟩) hp.2]
    rfl
theorem notes_conv {s : Sf} : ∀ (l : List Nt) (bf : Int), (∀ b ∈ l, bf < b.id ∧ b.id ≤ s.nn - 1 ∧ mayNt s b = true) → (l.Pairwise fun a b => a.id < b.id) → notesFrom s bf l = true
  | [], _, _, _ => rfl
  | x :: l, bf, h, hp => by
    obtain ⟨h1, h2, h3⟩ := h x (by simp)
    rw [List.pairwise_cons] at hp
    show (inI x.id (bf + 1) (s.nn - 1) && (mayNt s x && notesFrom s x.id l)) = true
    rw [inI_of (by omega) h2, h3, notes_conv l x.id (fun b hb => ⟨hp.1 b hb, (h b (by simp [hb])).2⟩) hp.2]
    rfl
theorem shIn_iff (ns : Int) : ∀ (l seen : List Int), sheetsIn ns seen l = true ↔ (∀ x ∈ l, inI x 1 (ns - 1) = true ∧ x ∉ seen) ∧ l.Nodup
  | [], seen => by simp [sheetsIn]
  | x :: l, seen => by
    have ih := shIn_iff ns l (x :: seen)
    show (inI x 1 (ns - 1) && (!seen.contains x && sheetsIn ns (x :: seen) l)) = true ↔ _
    rw [Bool.and_eq_true, Bool.and_eq_true, ih, List.nodup_cons]
    simp only [Bool.not_eq_true', List.contains_eq_mem, decide_eq_false_iff_not, List.mem_cons, not_or]
    constructor
    · rintro ⟨h1, h2, h3, h4⟩
      refine ⟨fun y hy => ?_, fun hx => (h3 x hx).2.1 rfl, h4⟩
      rcases hy with rfl | hy
      · exact ⟨h1, h2⟩
      · exact ⟨(h3 y hy).1, (h3 y hy).2.2⟩
    · rintro ⟨h1, h2, h3⟩
      refine ⟨(h1 x (Or.inl rfl)).1, (h1 x (Or.inl rfl)).2, fun y hy => ⟨(h1 y (Or.inr hy)).1, fun e => h2 (e ▸ hy), (h1 y (Or.inr hy)).2⟩, h3⟩
theorem sh_iff (ns : Int) : ∀ (l : List Nt) (seen : List Int), sheetsFrom ns seen l = true ↔ (∀ n ∈ l, n.sh.length ≤ 8) ∧ (∀ x ∈ l.flatMap Nt.sh, inI x 1 (ns - 1) = true ∧ x ∉ seen) ∧ (l.flatMap Nt.sh).Nodup
  | [], seen => by simp [sheetsFrom]
  | n :: l, seen => by
    have ih := sh_iff ns l (n.sh.reverse ++ seen)
    show (decide (n.sh.length ≤ 8) && (sheetsIn ns seen n.sh && sheetsFrom ns (n.sh.reverse ++ seen) l)) = true ↔ _
    rw [Bool.and_eq_true, Bool.and_eq_true, ih, shIn_iff, List.flatMap_cons, List.nodup_append]
    simp only [decide_eq_true_eq, List.mem_cons, List.mem_append, List.mem_reverse, not_or]
    constructor
    · rintro ⟨h1, ⟨h2, h3⟩, h4, h5, h6⟩
      refine ⟨fun m hm => ?_, fun x hx => ?_, h3, h6, fun a ha b hb e => ?_⟩
      · rcases hm with rfl | hm
        · exact h1
        · exact h4 m hm
      · rcases hx with hx | hx
        · exact h2 x hx
        · exact ⟨(h5 x hx).1, (h5 x hx).2.2⟩
      · subst e
        exact (h5 a hb).2.1 ha
    · rintro ⟨h1, h2, h3, h4, h5⟩
      exact ⟨h1 n (Or.inl rfl), ⟨fun x hx => h2 x (Or.inl hx), h3⟩, fun m hm => h1 m (Or.inr hm), fun x hx => ⟨(h2 x (Or.inr hx)).1, fun hx2 => h5 x hx2 x hx rfl, (h2 x (Or.inr hx)).2⟩, h4⟩
theorem mayS_conv {s : Sf} (h : MayF s) : mayS s = true := by
  unfold mayS
  rw [inI_of h.nb.1 h.nb.2, inI_of h.nn.1 h.nn.2, inI_of h.ns.1 h.ns.2, decide_eq_true h.bl, decide_eq_true h.tl, books_conv s.bs 0 h.bs h.bo, notes_conv s.ts 0 h.ts h.tord, h.sh]
  rfl
def discL (s : Sf) (L : List Int) : Sf := { s with ts := s.ts.filter fun n => !L.contains n.id }
theorem MayF.idinj {s : Sf} (h : MayF s) {a b : Nt} (ha : a ∈ s.ts) (hb : b ∈ s.ts) (he : a.id = b.id) : a = b := by
  obtain ⟨i, hi, rfl⟩ := List.mem_iff_getElem.1 ha
  obtain ⟨j, hj, rfl⟩ := List.mem_iff_getElem.1 hb
  rcases Nat.lt_trichotomy i j with hij | rfl | hij
  · have := List.pairwise_iff_getElem.1 h.tord i j hi hj hij
    omega
  · rfl
  · have := List.pairwise_iff_getElem.1 h.tord j i hj hi hij
    omega
theorem MayF.bidinj {s : Sf} (h : MayF s) {a b : Bk} (ha : a ∈ s.bs) (hb : b ∈ s.bs) (he : a.id = b.id) : a = b := by
  obtain ⟨i, hi, rfl⟩ := List.mem_iff_getElem.1 ha
  obtain ⟨j, hj, rfl⟩ := List.mem_iff_getElem.1 hb
  rcases Nat.lt_trichotomy i j with hij | rfl | hij
  · have := List.pairwise_iff_getElem.1 h.bo i j hi hj hij
    omega
  · rfl
  · have := List.pairwise_iff_getElem.1 h.bo j i hj hi hij
    omega
structure DrpF (s : Sf) (x : Int) (its : List It) : Prop where
  disc : ∀ (i : Nat) (y : It), its[i]? = some y → discC (discL s ((its.map It.id).take i)) y.id = 0
  step : ∀ (i : Nat) (y : It), its[i]? = some y → discS (discL s ((its.map It.id).take i)) y.id = discL s ((its.map It.id).take (i + 1))
  last : dropC (discL s (its.map It.id)) x = 0
  same : dropS (discL s (its.map It.id)) x = dropS s x
  notes : ((dropS s x).ts.length : Int) = (s.ts.length : Int) - (its.length : Int)
  books : ((dropS s x).bs.length : Int) = (s.bs.length : Int) - 1
end Go.Proofs.YtnpinkbbkhllaaaGreatDoor
namespace Go.Proofs.YtnpinkbbkhllaaaGreatDoor
open Go.ChangeShapes Go.WideShapes Go.ChangeAt Go.RowKit
attribute [local go_sem ↓] Go.wp_at_zero Go.wp_at_succ
def z5 (w : World) (g : Nat) : World := st5 w g 0 (.int .i64 0) (.int .i64 0) (.int .i64 0) (.slice none 0 0) (.slice none 0 0)
def renC (s : Sf) (y : Int) (x : ByteArray) : Int := cond (mayS s) (cond (decide (bookAt s y < 0)) 4 (cond (mayN x) (cond (bookTk s x y) 7 0) 6)) 2
def renS (s : Sf) (y : Int) (x : ByteArray) : Sf := { s with bs := s.bs.set (bookAt s y).toNat ⟨y, x⟩ }
def nameAt (s : Sf) (y : Int) : ByteArray := match s.ts[(noteAt s y).toNat]? with
  | some n => n.nm
  | none => ByteArray.empty
def movC (s : Sf) (y z : Int) : Int := cond (mayS s) (cond (decide (noteAt s y < 0) || decide (bookAt s z < 0)) 4 (cond (noteTk s z (nameAt s y) y) 7 0)) 2
def movS (s : Sf) (y z : Int) : Sf := match s.ts[(noteAt s y).toNat]? with
  | some n => { s with ts := s.ts.set (noteAt s y).toNat { n with bk := z } }
  | none => s
end Go.Proofs.YtnpinkbbkhllaaaGreatDoor
namespace Go.Proofs.YtnpinkbbkhllaaaGreatDoor
open Go.ChangeShapes Go.WideShapes Go.ChangeAt Go.RowKit
attribute [local go_sem ↓] Go.wp_at_zero Go.wp_at_succ
structure MkF (s : Sf) (x : ByteArray) : Prop where
  may : MayF s
  nm : mayN x = true
  tk : bookTk s x 0 = false
  bl : s.bs.length < 6
  nb : s.nb < 65536
theorem tkB_iff {s : Sf} {x : ByteArray} {y : Int} : bookTk s x y = false ↔ ∀ b ∈ s.bs, b.nm.toList = x.toList → b.id = y := by
  unfold bookTk
  rw [List.any_eq_false]
  constructor
  · intro h b hb he
    have := h b hb
    simpa [sameS, he] using this
  · intro h b hb
    simp only [sameS, Bool.and_eq_true, beq_iff_eq, bne_iff_ne, ne_eq, not_and, Decidable.not_not]
    exact h b hb
theorem tkN_iff {s : Sf} {z : Int} {x : ByteArray} {y : Int} : noteTk s z x y = false ↔ ∀ n ∈ s.ts, n.bk = z → n.nm.toList = x.toList → n.id = y := by
  unfold noteTk
  rw [List.any_eq_false]
  constructor
  · intro h n hn hb he
    have := h n hn
    simpa [sameS, he, hb] using this
  · intro h n hn
    simp only [sameS, Bool.and_eq_true, beq_iff_eq, bne_iff_ne, ne_eq, not_and, Decidable.not_not]
    exact h n hn
theorem mayNt_iff {s : Sf} {n : Nt} : mayNt s n = true ↔ mayN n.nm = true ∧ (∃ b ∈ s.bs, b.id = n.bk) ∧ noteTk s n.bk n.nm n.id = false ∧ mayTg n.tg = true := by
  unfold mayNt
  simp only [Bool.and_eq_true, Bool.not_eq_true', decide_eq_true_eq]
  rw [book_is]
theorem MkF.may2 {s : Sf} {x : ByteArray} (h : MkF s x) : MayF (makeS s x) := by
  have hF := h.may
  have hnb := hF.nb
  have hone : ∀ b ∈ s.bs, 0 < b.id ∧ b.id ≤ s.nb - 1 := fun b hb => ⟨(hF.bs b hb).1, (hF.bs b hb).2.1⟩
  have hno : ∀ b ∈ s.bs, b.nm.toList ≠ x.toList := fun b hb he => by
    have h1 := tkB_iff.1 h.tk b hb he
    have h2 := hone b hb
    omega
  have hlt := h.nb
  refine ⟨⟨by show 1 ≤ s.nb + 1; omega, by show s.nb + 1 ≤ 65536; omega⟩, hF.nn, hF.ns, by show (s.bs ++ [_]).length ≤ 6; rw [List.length_append]; have := h.bl; simp; omega, hF.tl, fun b hb => ?_, ?_, fun n hn => ⟨(hF.ts n hn).1, (hF.ts n hn).2.1, ?_⟩, hF.tord, hF.sh⟩
  · have hb' : b ∈ s.bs ++ [⟨s.nb, x⟩] := hb
    have htk : bookTk (makeS s x) b.nm b.id = false := by
      rw [tkB_iff]
      intro c hc he
      have hc' : c ∈ s.bs ++ [⟨s.nb, x⟩] := hc
      rcases List.mem_append.1 hb' with hb1 | hb1 <;> rcases List.mem_append.1 hc' with hc1 | hc1
      · exact hF.names hc1 hb1 he
      · rw [List.mem_singleton] at hc1
        subst hc1
        exact absurd he.symm (hno b hb1)
      · rw [List.mem_singleton] at hb1
        subst hb1
        exact absurd he (hno c hc1)
      · rw [List.mem_singleton] at hb1 hc1
        rw [hb1, hc1]
    rcases List.mem_append.1 hb' with hb1 | hb1
    · have h2 := hF.bs b hb1
      exact ⟨h2.1, by show b.id ≤ s.nb + 1 - 1; omega, h2.2.2.1, htk⟩
    · rw [List.mem_singleton] at hb1
      subst hb1
      exact ⟨by show 0 < s.nb; omega, by show s.nb ≤ s.nb + 1 - 1; omega, h.nm, htk⟩
  · show (s.bs ++ [(⟨s.nb, x⟩ : Bk)]).Pairwise _
    rw [List.pairwise_append]
    refine ⟨hF.bo, List.pairwise_singleton _ _, fun a ha b hb => ?_⟩
    rw [List.mem_singleton] at hb
    subst hb
    have := hone a ha
    show a.id < s.nb
    omega
  · obtain ⟨q1, ⟨b, hb, hbe⟩, q3, q4⟩ := mayNt_iff.1 (hF.ts n hn).2.2
    exact mayNt_iff.2 ⟨q1, ⟨b, List.mem_append_left _ hb, hbe⟩, q3, q4⟩
theorem MkF.drop {s : Sf} {x : ByteArray} (h : MkF s x) : dropC (makeS s x) s.nb = 0 ∧ { dropS (makeS s x) s.nb with nb := s.nb } = s := by
  have hF := h.may
  have h0 : 0 ≤ bookAt (makeS s x) s.nb := (book_is _).2 ⟨⟨s.nb, x⟩, List.mem_append_right _ (by simp), rfl⟩
  constructor
  · unfold dropC
    rw [mayS_conv h.may2, decide_eq_false (by omega)]
    rfl
  · have e1 : (s.bs ++ [(⟨s.nb, x⟩ : Bk)]).filter (fun b => !(b.id == s.nb)) = s.bs := by
      rw [List.filter_append]
      have : s.bs.filter (fun b => !(b.id == s.nb)) = s.bs := by
        rw [List.filter_eq_self]
        intro b hb
        have := (hF.bs b hb).2.1
        have hne : b.id ≠ s.nb := by omega
        simp [hne]
      rw [this]
      simp
    have e2 : s.ts.filter (fun n => !(n.bk == s.nb)) = s.ts := by
      rw [List.filter_eq_self]
      intro n hn
      obtain ⟨b, hb, he⟩ := (mayNt_iff.1 (hF.ts n hn).2.2).2.1
      have := (hF.bs b hb).2.1
      have hne : n.bk ≠ s.nb := by omega
      simp [hne]
    show (⟨s.nb, s.nn, s.ns, (s.bs ++ [(⟨s.nb, x⟩ : Bk)]).filter (fun b => !(b.id == s.nb)), s.ts.filter (fun n => !(n.bk == s.nb))⟩ : Sf) = s
    rw [e1, e2]
theorem renS_at {s : Sf} {y : Int} {x : ByteArray} {k : Nat} (h : bookAt s y = (k : Int)) : renS s y x = { s with bs := s.bs.set k ⟨y, x⟩ } := by
  unfold renS
  rw [h]
  rfl
theorem movS_at {s : Sf} {y z : Int} {k : Nat} {n : Nt} (h : noteAt s y = (k : Int)) (hn : s.ts[k]? = some n) : movS s y z = { s with ts := s.ts.set k { n with bk := z } } := by
  unfold movS
  rw [h]
  simp [hn]
structure RnF (s : Sf) (y : Int) (x : ByteArray) (k : Nat) (b : Bk) : Prop where
  may : MayF s
  at_ : bookAt s y = (k : Int)
  bk : s.bs[k]? = some b
  id : b.id = y
  nm : mayN x = true
  tk : bookTk s x y = false
theorem RnF.eq {s : Sf} {y : Int} {x : ByteArray} {k : Nat} {b : Bk} (h : RnF s y x k b) : renS s y x = { s with bs := s.bs.set k ⟨y, x⟩ } := by
  unfold renS
  rw [h.at_]
  rfl
theorem set_mem {α : Type} {l : List α} {k : Nat} {a c : α} (h : c ∈ l.set k a) : c = a ∨ ∃ j, j ≠ k ∧ l[j]? = some c := by
  obtain ⟨j, hj, he⟩ := List.mem_iff_getElem.1 h
  have h1 := List.getElem?_eq_getElem hj
  rw [he, List.getElem?_set] at h1
  split at h1
  · rename_i hjk
    left
    split at h1
    · exact (Option.some.inj h1).symm
    · cases h1
  · rename_i hjk
    exact Or.inr ⟨j, fun e => hjk e.symm, h1⟩
theorem set_ids {l : List Bk} {k : Nat} {b : Bk} {x : ByteArray} (hb : l[k]? = some b) : (l.set k ⟨b.id, x⟩).map Bk.id = l.map Bk.id := by
  rw [List.map_set]
  apply List.ext_getElem?
  intro j
  rw [List.getElem?_set, List.getElem?_map]
  split
  · rename_i h
    subst h
    rw [hb]
    have := (List.getElem?_eq_some_iff.1 hb).1
    simp [this]
  · rfl
theorem RnF.may2 {s : Sf} {y : Int} {x : ByteArray} {k : Nat} {b : Bk} (h : RnF s y x k b) : MayF (renS s y x) := by
  have hF := h.may
  rw [h.eq]
  have hbm := List.mem_of_getElem? h.bk
  have hids := set_ids (x := x) h.bk
  rw [h.id] at hids
  have hmem : ∀ c ∈ s.bs.set k ⟨y, x⟩, (c = ⟨y, x⟩) ∨ (c ∈ s.bs ∧ c.id ≠ y) := by
    intro c hc
    rcases set_mem hc with h1 | ⟨j, hj, he⟩
    · exact Or.inl h1
    · refine Or.inr ⟨List.mem_of_getElem? he, fun e => hj ?_⟩
      have hcb := hF.bidinj (List.mem_of_getElem? he) hbm (e.trans h.id.symm)
      obtain ⟨h1, e1⟩ := List.getElem?_eq_some_iff.1 he
      obtain ⟨h2, e2⟩ := List.getElem?_eq_some_iff.1 h.bk
      rcases Nat.lt_trichotomy j k with hlt | rfl | hlt
      · have := List.pairwise_iff_getElem.1 hF.bo j k h1 h2 hlt
        rw [e1, e2, hcb] at this
        omega
      · rfl
      · have := List.pairwise_iff_getElem.1 hF.bo k j h2 h1 hlt
        rw [e1, e2, hcb] at this
        omega
  refine ⟨hF.nb, hF.nn, hF.ns, by show (s.bs.set k _).length ≤ 6; rw [List.length_set]; exact hF.bl, hF.tl, fun c hc => ?_, ?_, fun n hn => ⟨(hF.ts n hn).1, (hF.ts n hn).2.1, ?_⟩, hF.tord, hF.sh⟩
  · have hc0 : c ∈ s.bs.set k ⟨y, x⟩ := hc
    have htk : bookTk { s with bs := s.bs.set k ⟨y, x⟩ } c.nm c.id = false := by
      rw [tkB_iff]
      intro d hd he
      rcases hmem d hd with rfl | ⟨hd1, hd2⟩ <;> rcases hmem c hc0 with rfl | ⟨hc1, hc2⟩
      · rfl
      · exact absurd (tkB_iff.1 h.tk c hc1 he.symm) hc2
      · exact absurd (tkB_iff.1 h.tk d hd1 he) hd2
      · exact hF.names hd1 hc1 he
    rcases hmem c hc0 with rfl | ⟨hc1, hc2⟩
    · have h2 := hF.bs b hbm
      rw [h.id] at h2
      exact ⟨h2.1, h2.2.1, h.nm, htk⟩
    · have h2 := hF.bs c hc1
      exact ⟨h2.1, h2.2.1, h2.2.2.1, htk⟩
  · have h1 : (s.bs.map Bk.id).Pairwise (· < ·) := List.pairwise_map.2 hF.bo
    rw [← hids] at h1
    exact List.pairwise_map.1 h1
  · obtain ⟨q1, ⟨c, hc, hce⟩, q3, q4⟩ := mayNt_iff.1 (hF.ts n hn).2.2
    have : n.bk ∈ (s.bs.set k ⟨y, x⟩).map Bk.id := by
      rw [hids]
      exact List.mem_map.2 ⟨c, hc, hce⟩
    obtain ⟨d, hd, hde⟩ := List.mem_map.1 this
    exact mayNt_iff.2 ⟨q1, ⟨d, hd, hde⟩, q3, q4⟩
theorem RnF.back {s : Sf} {y : Int} {x : ByteArray} {k : Nat} {b : Bk} (h : RnF s y x k b) : renC (renS s y x) y b.nm = 0 ∧ renS (renS s y x) y b.nm = s := by
  have hF := h.may
  have hbm := List.mem_of_getElem? h.bk
  have hids := set_ids (x := x) h.bk
  rw [h.id] at hids
  have hlt := (List.getElem?_eq_some_iff.1 h.bk).1
  have hidx : bookAt (renS s y x) y = (k : Int) := by
    have h1 : ∀ l : List Bk, idxP (fun b : Bk => b.id == y) l = idxP (fun i : Int => i == y) (l.map Bk.id) := by
      intro l
      unfold idxP
      rw [List.findIdx?_map]
      rfl
    show idxP _ (renS s y x).bs = _
    rw [h.eq, h1]
    show idxP _ ((s.bs.set k ⟨y, x⟩).map Bk.id) = _
    rw [hids, ← h1]
    exact h.at_
  constructor
  · unfold renC
    rw [mayS_conv h.may2, hidx, decide_eq_false (by omega), (hF.bs b hbm).2.2.1]
    have : bookTk (renS s y x) b.nm y = false := by
      rw [tkB_iff, h.eq]
      intro d hd he
      rcases set_mem hd with rfl | ⟨j, hj, hje⟩
      · rfl
      · have := hF.names (List.mem_of_getElem? hje) hbm he
        rw [this, h.id]
    rw [this]
    rfl
  · have : renS (renS s y x) y b.nm = { renS s y x with bs := (renS s y x).bs.set k ⟨y, b.nm⟩ } := renS_at hidx
    rw [this, h.eq]
    show ({ s with bs := (s.bs.set k ⟨y, x⟩).set k ⟨y, b.nm⟩ } : Sf) = s
    rw [List.set_set]
    have hbe : (⟨y, b.nm⟩ : Bk) = b := by rw [← h.id]
    rw [hbe]
    have : s.bs.set k b = s.bs := by
      obtain ⟨h1, e1⟩ := List.getElem?_eq_some_iff.1 h.bk
      rw [← e1]
      exact List.set_getElem_self h1
    rw [this]
structure MvF (s : Sf) (y z : Int) (k : Nat) (n : Nt) : Prop where
  may : MayF s
  at_ : noteAt s y = (k : Int)
  nt : s.ts[k]? = some n
  id : n.id = y
  bk : ∃ b ∈ s.bs, b.id = z
  tk : noteTk s z n.nm y = false
theorem MvF.eq {s : Sf} {y z : Int} {k : Nat} {n : Nt} (h : MvF s y z k n) : movS s y z = { s with ts := s.ts.set k { n with bk := z } } := by
  unfold movS
  rw [h.at_]
  simp [h.nt]
theorem setN_map {β : Type} {l : List Nt} {k : Nat} {n : Nt} {z : Int} (f : Nt → β) (hf : f { n with bk := z } = f n) (hn : l[k]? = some n) : (l.set k { n with bk := z }).map f = l.map f := by
  rw [List.map_set, hf]
  apply List.ext_getElem?
  intro j
  rw [List.getElem?_set, List.getElem?_map]
  split
  · rename_i h
    subst h
    rw [hn]
    have := (List.getElem?_eq_some_iff.1 hn).1
    simp [this]
  · rfl
theorem MvF.may2 {s : Sf} {y z : Int} {k : Nat} {n : Nt} (h : MvF s y z k n) : MayF (movS s y z) := by
  have hF := h.may
  rw [h.eq]
  have hnm := List.mem_of_getElem? h.nt
  have hmem : ∀ c ∈ s.ts.set k { n with bk := z }, (c = { n with bk := z }) ∨ (c ∈ s.ts ∧ c.id ≠ y) := by
    intro c hc
    rcases set_mem hc with h1 | ⟨j, hj, he⟩
    · exact Or.inl h1
    · refine Or.inr ⟨List.mem_of_getElem? he, fun e => hj ?_⟩
      have hcb := hF.idinj (List.mem_of_getElem? he) hnm (e.trans h.id.symm)
      obtain ⟨h1, e1⟩ := List.getElem?_eq_some_iff.1 he
      obtain ⟨h2, e2⟩ := List.getElem?_eq_some_iff.1 h.nt
      rcases Nat.lt_trichotomy j k with hlt | rfl | hlt
      · have := List.pairwise_iff_getElem.1 hF.tord j k h1 h2 hlt
        rw [e1, e2, hcb] at this
        omega
      · rfl
      · have := List.pairwise_iff_getElem.1 hF.tord k j h2 h1 hlt
        rw [e1, e2, hcb] at this
        omega
  obtain ⟨q1, q2, q3⟩ := (sh_iff _ _ _).1 hF.sh
  have hfm : (s.ts.set k { n with bk := z }).flatMap Nt.sh = s.ts.flatMap Nt.sh := by
    rw [List.flatMap_def, List.flatMap_def, setN_map Nt.sh rfl h.nt]
  refine ⟨hF.nb, hF.nn, hF.ns, hF.bl, by show (s.ts.set k _).length ≤ 12; rw [List.length_set]; exact hF.tl, hF.bs, hF.bo, fun c hc => ?_, ?_, ?_⟩
  · have hc0 : c ∈ s.ts.set k { n with bk := z } := hc
    have htk : ∀ c ∈ s.ts.set k { n with bk := z }, noteTk { s with ts := s.ts.set k { n with bk := z } } c.bk c.nm c.id = false := by
      intro c hc
      rw [tkN_iff]
      intro d hd hdb he
      rcases hmem d hd with rfl | ⟨hd1, hd2⟩ <;> rcases hmem c hc with rfl | ⟨hc1, hc2⟩
      · rfl
      · exact absurd (tkN_iff.1 h.tk c hc1 hdb.symm he.symm) hc2
      · exact absurd (tkN_iff.1 h.tk d hd1 hdb he) hd2
      · exact hF.nnames hd1 hc1 hdb he
    rcases hmem c hc0 with rfl | ⟨hc1, hc2⟩
    · have h2 := hF.ts n hnm
      obtain ⟨m1, m2, m3, m4⟩ := mayNt_iff.1 h2.2.2
      exact ⟨h2.1, h2.2.1, mayNt_iff.2 ⟨m1, h.bk, htk _ hc0, m4⟩⟩
    · have h2 := hF.ts c hc1
      obtain ⟨m1, m2, m3, m4⟩ := mayNt_iff.1 h2.2.2
      exact ⟨h2.1, h2.2.1, mayNt_iff.2 ⟨m1, m2, htk _ hc0, m4⟩⟩
  · have h1 : (s.ts.map Nt.id).Pairwise (· < ·) := List.pairwise_map.2 hF.tord
    rw [← setN_map Nt.id rfl h.nt (z := z)] at h1
    exact List.pairwise_map.1 h1
  · refine (sh_iff _ _ _).2 ⟨fun c hc => ?_, ?_, ?_⟩
    · rcases hmem c hc with rfl | ⟨hc1, _⟩
      · exact q1 n hnm
      · exact q1 c hc1
    · show ∀ x ∈ (s.ts.set k { n with bk := z }).flatMap Nt.sh, _
      rw [hfm]
      exact q2
    · show ((s.ts.set k { n with bk := z }).flatMap Nt.sh).Nodup
      rw [hfm]
      exact q3
theorem MvF.back {s : Sf} {y z : Int} {k : Nat} {n : Nt} (h : MvF s y z k n) : movC (movS s y z) y n.bk = 0 ∧ movS (movS s y z) y n.bk = s := by
  have hF := h.may
  have hnm := List.mem_of_getElem? h.nt
  have hlt := (List.getElem?_eq_some_iff.1 h.nt).1
  have hidx : noteAt (movS s y z) y = (k : Int) := by
    have h1 : ∀ l : List Nt, idxP (fun b : Nt => b.id == y) l = idxP (fun i : Int => i == y) (l.map Nt.id) := by
      intro l
      unfold idxP
      rw [List.findIdx?_map]
      rfl
    show idxP _ (movS s y z).ts = _
    rw [h.eq, h1]
    show idxP _ ((s.ts.set k { n with bk := z }).map Nt.id) = _
    rw [setN_map Nt.id rfl h.nt, ← h1]
    exact h.at_
  have hget : (movS s y z).ts[k]? = some { n with bk := z } := by
    rw [h.eq]
    show (s.ts.set k { n with bk := z })[k]? = _
    rw [List.getElem?_set_self hlt]
  have hnam : nameAt (movS s y z) y = n.nm := by
    unfold nameAt
    rw [hidx]
    simp [hget]
  obtain ⟨m1, m2, m3, m4⟩ := mayNt_iff.1 (hF.ts n hnm).2.2
  constructor
  · have hbk : 0 ≤ bookAt (movS s y z) n.bk := by
      rw [h.eq]
      exact (book_is (s := { s with ts := s.ts.set k { n with bk := z } }) _).2 m2
    have htk : noteTk (movS s y z) n.bk n.nm y = false := by
      rw [tkN_iff, h.eq]
      intro d hd hdb he
      rcases set_mem hd with rfl | ⟨j, hj, hje⟩
      · exact h.id
      · have := tkN_iff.1 m3 d (List.mem_of_getElem? hje) hdb he
        rw [this, h.id]
    unfold movC
    rw [mayS_conv h.may2, hidx, hnam, htk, decide_eq_false (by omega), decide_eq_false (by omega)]
    rfl
  · have : movS (movS s y z) y n.bk = { movS s y z with ts := (movS s y z).ts.set k { n with bk := n.bk } } := by
      have := movS_at (z := n.bk) hidx hget
      exact this
    rw [this, h.eq]
    show ({ s with ts := (s.ts.set k { n with bk := z }).set k { n with bk := n.bk } } : Sf) = s
    rw [List.set_set]
    have : s.ts.set k { n with bk := n.bk } = s.ts := by
      obtain ⟨h1, e1⟩ := List.getElem?_eq_some_iff.1 h.nt
      have e2 : ({ n with bk := n.bk } : Nt) = n := rfl
      rw [e2, ← e1]
      exact List.set_getElem_self h1
    rw [this]
end Go.Proofs.YtnpinkbbkhllaaaGreatDoor
namespace Go.Proofs.YtnpinkbbkhllaaaGreatDoor
open Go.ChangeShapes Go.WideShapes Go.ChangeAt Go.RowKit
attribute [local go_sem ↓] Go.wp_at_zero Go.wp_at_succ
def bytN (x : ByteArray) : List Nat := x.data.toList.map UInt8.toNat
def strN (l : List Nat) : ByteArray := ⟨(l.map UInt8.ofNat).toArray⟩
theorem bytN_len (x : ByteArray) : (bytN x).length = x.size := by
  unfold bytN
  rw [List.length_map]
  rfl
def iL (v : Int) (n : Nat) : List Nat := beB v.toNat n
theorem iL_len (v : Int) (n : Nat) : (iL v n).length = n := beB_len _ _
def nmL (x : ByteArray) : List Nat := x.size :: bytN x
def bkL (b : Bk) : List Nat := iL b.id 3 ++ nmL b.nm
def ntL (n : Nt) : List Nat := iL n.id 3 ++ (iL n.bk 3 ++ (nmL n.nm ++ (n.tg.length :: (n.tg.flatMap nmL ++ (n.sh.length :: n.sh.flatMap fun z => iL z 2)))))
def shL (s : Sf) : List Nat := iL s.nb 3 ++ (iL s.nn 3 ++ (iL s.ns 3 ++ (s.bs.length :: (s.bs.flatMap bkL ++ (s.ts.length :: s.ts.flatMap ntL)))))
abbrev Rr := List Nat × Bool
def tkR (n : Nat) (r : Rr) : List Nat × Rr := cond r.2 ([], r) (cond (decide (r.1.length < n)) ([], (r.1, true)) (r.1.take n, (r.1.drop n, false)))
def nmb (n : Nat) (r : Rr) : Nat × Rr := (numB (tkR n r).1, (tkR n r).2)
def txt (r : Rr) : ByteArray × Rr := (strN (tkR (nmb 1 r).1 (nmb 1 r).2).1, (tkR (nmb 1 r).1 (nmb 1 r).2).2)
def rBk1 (r : Rr) : Bk × Rr := (⟨((nmb 3 r).1 : Int), (txt (nmb 3 r).2).1⟩, (txt (nmb 3 r).2).2)
def rBk : Nat → List Bk → Rr → List Bk × Rr
  | 0, acc, r => (acc, r)
  | k + 1, acc, r => rBk k (acc ++ [(rBk1 r).1]) (rBk1 r).2
def rTg : Nat → List ByteArray → Rr → List ByteArray × Rr
  | 0, acc, r => (acc, r)
  | k + 1, acc, r => rTg k (acc ++ [(txt r).1]) (txt r).2
def rSh : Nat → List Int → Rr → List Int × Rr
  | 0, acc, r => (acc, r)
  | k + 1, acc, r => rSh k (acc ++ [((nmb 2 r).1 : Int)]) (nmb 2 r).2
def rH1 (r : Rr) : Nt × Rr := (⟨((nmb 3 r).1 : Int), ((nmb 3 (nmb 3 r).2).1 : Int), (txt (nmb 3 (nmb 3 r).2).2).1, [], []⟩, (txt (nmb 3 (nmb 3 r).2).2).2)
def rNt1 (r : Rr) : Nt × Rr :=
  let h := rH1 r
  let c := nmb 1 h.2
  let g := rTg c.1 [] c.2
  let d := nmb 1 g.2
  let z := rSh d.1 [] d.2
  ({ h.1 with tg := g.1, sh := z.1 }, z.2)
def rNt : Nat → List Nt → Rr → List Nt × Rr
  | 0, acc, r => (acc, r)
  | k + 1, acc, r => rNt k (acc ++ [(rNt1 r).1]) (rNt1 r).2
def rAll (b : List Nat) : Sf × Rr :=
  let x := nmb 3 (b, false)
  let y := nmb 3 x.2
  let z := nmb 3 y.2
  let c := nmb 1 z.2
  let bs := rBk c.1 [] c.2
  let d := nmb 1 bs.2
  let ts := rNt d.1 [] d.2
  (⟨(x.1 : Int), (y.1 : Int), (z.1 : Int), bs.1, ts.1⟩, ts.2)
def okR (b : List Nat) : Bool := !(rAll b).2.2 && ((rAll b).2.1.isEmpty && mayS (rAll b).1)
-- forth
structure OkB (b : Bk) : Prop where
  a : 0 ≤ b.id ∧ b.id < 16777216
structure OkN (n : Nt) : Prop where
  a : 0 ≤ n.id ∧ n.id < 16777216
  b : 0 ≤ n.bk ∧ n.bk < 16777216
  c : ∀ z ∈ n.sh, 0 ≤ z ∧ z < 65536
structure OkS (s : Sf) : Prop where
  nb : 0 ≤ s.nb ∧ s.nb < 16777216
  nn : 0 ≤ s.nn ∧ s.nn < 16777216
  ns : 0 ≤ s.ns ∧ s.ns < 16777216
  bs : ∀ b ∈ s.bs, OkB b
  ts : ∀ n ∈ s.ts, OkN n
structure NmB (n : Nat) (r : Rr) : Prop where
  no : r.2 = false
  eq : r.1 = iL ((nmb n r).1 : Int) n ++ (nmb n r).2.1
  b8 : Bytes8 (nmb n r).2.1
  lt : (nmb n r).1 < 16777216
  l2 : n ≤ 2 → (nmb n r).1 < 65536
  l1 : n = 1 → r.1 = (nmb n r).1 :: (nmb n r).2.1 ∧ (nmb n r).1 < 256
structure TxB (r : Rr) : Prop where
  no : r.2 = false
  eq : r.1 = nmL (txt r).1 ++ (txt r).2.1
  b8 : Bytes8 (txt r).2.1
theorem MayF.ok {s : Sf} (h : MayF s) : OkS s := by
  refine ⟨⟨by have := h.nb; omega, by have := h.nb; omega⟩, ⟨by have := h.nn; omega, by have := h.nn; omega⟩, ⟨by have := h.ns; omega, by have := h.ns; omega⟩, fun b hb => ⟨?_, ?_⟩, fun n hn => ?_⟩
  · have := h.bs b hb
    omega
  · have h1 := h.bs b hb
    have h2 := h.nb
    omega
  · have h1 := h.ts n hn
    have h2 := h.nn
    obtain ⟨m1, m2, m3, m4⟩ := mayNt_iff.1 h1.2.2
    obtain ⟨q1, q2, q3⟩ := (sh_iff _ _ _).1 h.sh
    refine ⟨⟨by omega, by omega⟩, ?_, fun z hz => ?_⟩
    · obtain ⟨b, hb, he⟩ := m2
      have h5 := h.bs b hb
      have h6 := h.nb
      omega
    · have h5 := inI_bd (q2 z (List.mem_flatMap.2 ⟨n, hn, hz⟩)).1
      have h6 := h.ns
      omega
end Go.Proofs.YtnpinkbbkhllaaaGreatDoor
namespace Go.Proofs.YtnpinkbbkhllaaaGreatDoor
open Go.ChangeShapes Go.WideShapes Go.ChangeAt Go.RowKit
theorem infoByte : (Tryz.prog.info? 5).map (fun i => (i.zero, i.size, i.bytes)) = some (some (.int .u8 0), 1, 1) := by kernel_rfl
def LentB (w : World) (g : Nat) (xs : List Value) : Prop := ∃ cur : Array Value, Blk w g 5 cur ∧ (∀ (j : Nat) (u : Value), xs[j]? = some u → cur[j]? = some u) ∧ ∀ i : Nat, i < 3 → cur[xs.length + i]? = some (.int .u8 119)
theorem LentB.below {w w' : World} {g B : Nat} {xs : List Value} (h : LentB w g xs) (hb : Below B w w') (hg : g < B) : LentB w' g xs := by
  obtain ⟨cur, h1, h2⟩ := h
  exact ⟨cur, h1.below hb hg, h2⟩
theorem LentB.lt {w : World} {g : Nat} {xs : List Value} (h : LentB w g xs) : g < w.heap.size := by
  obtain ⟨cur, h1, _⟩ := h
  exact h1.lt
theorem LentB.sl {w : World} {g : Nat} {xs : List Value} (h : LentB w g xs) : Sl w w.heap.size (some ⟨g, 0, none⟩) xs := by
  have hl := h.lt
  obtain ⟨cur, h1, h2, _⟩ := h
  exact Or.inr ⟨g, 0, rfl, hl, fun k v hk => by rw [Nat.zero_add, h1.cell_]; exact h2 k v hk⟩
end Go.Proofs.YtnpinkbbkhllaaaGreatDoor
namespace Go.Proofs.YtnpinkbbkhllaaaGreatDoor
open Go.ChangeShapes Go.WideShapes Go.ChangeAt Go.RowKit
theorem Sl.held {W w' : World} {A : Option Addr} {vs : List Value} (h : Sl W W.heap.size A vs) (hz : W.heap.size ≤ w'.heap.size) (hc : ∀ b o, b < W.heap.size → w'.cell? ⟨b, o, none⟩ = W.cell? ⟨b, o, none⟩) : Sl w' w'.heap.size A vs := by
  rcases h with h | ⟨b, off, e, hlt, hq⟩
  · exact Or.inl h
  · exact Or.inr ⟨b, off, e, by omega, fun k v hv => (hc b (off + k) hlt).trans (hq k v hv)⟩
end Go.Proofs.YtnpinkbbkhllaaaGreatDoor
namespace Go.Proofs.YtnpinkbbkhllaaaGreatDoor
open Go.ChangeShapes Go.WideShapes Go.ChangeAt Go.RowKit
attribute [local go_sem ↓] Go.wp_at_zero Go.wp_at_succ
end Go.Proofs.YtnpinkbbkhllaaaGreatDoor
namespace Go.Proofs.YtnpinkbbkhllaaaGreatDoor
open Go.ChangeShapes Go.WideShapes Go.ChangeAt Go.RowKit
attribute [local go_sem ↓] Go.wp_at_zero Go.wp_at_succ
def KeepU (w w' : World) : Prop := ∀ (k : Nat) (cs : Array Value) (t : TypeId) (fr : Nat × Nat), w.heap[k]? = some (.cells cs t fr) → t ≠ 5 → w'.heap[k]? = some (.cells cs t fr)
theorem KeepU.refl (w : World) : KeepU w w := fun _ _ _ _ h _ => h
theorem KeepU.trans {w w1 w2 : World} (h : KeepU w w1) (h2 : KeepU w1 w2) : KeepU w w2 := fun k cs t fr a b => h2 k cs t fr (h k cs t fr a b) b
theorem lt_of_heap {w : World} {k : Nat} {o : Obj} (h : w.heap[k]? = some o) : k < w.heap.size := by
  rcases Nat.lt_or_ge k w.heap.size with h1 | h1
  · exact h1
  · rw [Array.getElem?_eq_none h1] at h
    cases h
theorem KeepU.alloc_ (w : World) (o : Obj) : KeepU w (w.alloc o) := fun k cs t fr a _ => (heap_alloc_old w o (lt_of_heap a)).trans a
theorem KeepU.of_grown {w w' : World} {base n : Nat} {v : Value} {xs : List Value} (ho : w.ownsRow base 5 1 v n xs) (hg : w.grownBy w' v.ownBlock) : KeepU w w' := by
  intro k cs t fr a b
  rw [← a]
  refine hg.block k (lt_of_heap a) (fun e => b ?_)
  rcases ho.2 with ⟨rfl, _⟩ | ⟨g, cap, cur, rfl, _, hh, _⟩
  · cases e
  · have e2 : g = k := by simpa [Value.ownBlock, eq_comm] using e
    subst e2
    rw [hh] at a
    cases a
    rfl
theorem Blk.keepU {w w' : World} {g : Nat} {t : TypeId} {cs : Array Value} (h : Blk w g t cs) (hk : KeepU w w') (ht : t ≠ 5) : Blk w' g t cs := hk g cs t (0, 0) h ht
def ByR (w : World) (base : Nat) (v : Value) (xs : List Nat) : Prop := w.ownsRow base 5 1 v xs.length (xs.map byteV)
theorem ByR.nil (w : World) (base : Nat) : ByR w base (.slice none 0 0) [] := World.ownsRow_nil _ _ _ _
structure ByT (base : Nat) (w w' : World) (v' : Value) (ys : List Nat) : Prop where
  row : ByR w' base v' ys
  be : Below base w w'
  kp : KeepU w w'
theorem ByT.step {base : Nat} {w w1 w2 : World} {v1 v2 : Value} {xs ys : List Nat} (h : ByT base w w1 v1 xs) (h2 : ByT base w1 w2 v2 ys) : ByT base w w2 v2 ys := ⟨h2.row, h.be.trans h2.be, h.kp.trans h2.kp⟩
theorem ByT.alloc {base : Nat} {w w1 : World} {v1 : Value} {xs : List Nat} (h : ByT base w w1 v1 xs) (hb : base ≤ w.heap.size) (o : Obj) : ByT base w (w1.alloc o) v1 xs := ⟨World.ownsRow.alloc h.row o, h.be.alloc (Nat.le_trans hb h.be.size) o, h.kp.trans (KeepU.alloc_ _ _)⟩
theorem ByT.start {base : Nat} {w : World} {v : Value} {xs : List Nat} (h : ByR w base v xs) : ByT base w w v xs := ⟨h, Below.refl _ _, KeepU.refl _⟩
theorem ByR.put {base n m : Nat} {w : World} {v : Value} {xs ys : List Nat} (h : w.ownsRow base 5 1 v (n + m) (xs.map byteV ++ ys.map byteV)) (hn : xs.length = n) (hm : ys.length = m) : ByR w base v (xs ++ ys) := by
  unfold ByR
  rw [List.length_append, hn, hm, List.map_append]
  exact h
theorem strCells_byt (x : ByteArray) : Lib.strCells x = (bytN x).map byteV := by
  unfold Lib.strCells bytN byteV
  rw [List.map_map]
  rfl
theorem bappT (v n : Nat) (base : Nat) (sv : Value) (xs : List Nat) (w : World) (hr : ByR w base sv xs) (hb : base ≤ w.heap.size) (hm : xs.length ≤ 50000) (hv : v < 4294967296) (hn1 : 1 ≤ n) (hn : n ≤ 4) :
    Calls Tryz.prog 120 #[sv, .int .i64 (v : Int), .int .i64 (n : Int)] w fun e' w' => ∃ v', e' = .returned v' ∧ ByT base w w' v' (xs ++ (beB v n)) := by
  obtain ⟨i0, hi, hz0, hz1, hz2⟩ := info_parts infoByte
  obtain ⟨m, hml⟩ : ∃ m, xs.length = m := ⟨_, rfl⟩
  have HML := Lib.hid hml
  rw [hml] at hm
  have hr1 : w.ownsRow base 5 1 sv (m + 0) ((xs ++ (beB v n).take 0).map byteV) := by
    unfold ByR at hr
    rw [hml] at hr
    simpa using hr
  clear hml hr
  go_enter Tryz.func120, Tryz.ntmps120
  go_wp2
  go_loopw [0, 7] (fun s i wr => ∃ k : Nat, k ≤ n ∧ i = .int .i64 (8 * (n : Int) - 8 - 8 * (k : Int)) ∧ wr.ownsRow base 5 1 s (m + k) ((xs ++ (beB v n).take k).map byteV) ∧ Below base w wr ∧ KeepU w wr) (fun _ i _ => ((intOf i) + 8).toNat)
  case atStart => exact ⟨0, Nat.zero_le _, by go_num, hr1, Below.refl _ _, KeepU.refl _⟩
  case round =>
    obtain ⟨k, hk, rfl, ho, hB, hK⟩ := hrel
    by_cases hlt : k < n
    · obtain ⟨q, hq⟩ : ∃ q : Nat, n - 1 - k = q := ⟨_, rfl⟩
      have e1 : 8 * (n : Int) - 8 - 8 * (k : Int) = ((8 * q : Nat) : Int) := by omega
      rw [e1]
      have hsn := beB_snoc v n k hlt
      rw [hq] at hsn
      have hq3 : q ≤ 3 := by omega
      have HQ := Lib.hid hq
      have HS := Lib.hid hsn
      have hbs := hB.size
      clear hq hsn e1
      have q0 : (0 : Int) ≤ 8 * (q : Int) := by omega
      have q1 : 8 * (q : Int) ≤ 24 := by omega
      go_wp2_with (at_builtin; refine wpList_app _ rfl (.tmp 15) (.tmp 20) _ rfl base 5 i0 _ 1 1 Tryz.underlying128 hi hz0 hz1 hz2 rfl (by decide) _ _ _ rfl (ho.alloc _) _ 1 _ [byteV (v / 2 ^ (8 * q) % 256)] rfl (Rd.one (by simp [byteV])) (by simp [byteV, Value.oneCell']) (by unfold maxLen; omega) (by omega) (by simp; omega) ?_; intro s2 w2 ho2 hg2 hv2)
      go_roundw
      case rel => exact ⟨k + 1, by omega, by have := HQ.out; congr 1; omega, by rw [HS.out]; simpa [Nat.add_assoc] using ho2, (hB.alloc (by omega) _).trans (below_app (Nat.le_refl _) (by simp; omega) (ho.alloc _) hg2), hK.trans ((KeepU.alloc_ _ _).trans (KeepU.of_grown (ho.alloc _) hg2))⟩
      case measure => simp [intOf]; omega
    · have hkn : k = n := by omega
      have e0 : 8 * (n : Int) - 8 - 8 * (k : Int) = -8 := by omega
      rw [e0]
      clear e0
      go_wp2
      go_ret
      refine ⟨_, rfl, ?_, hB, hK⟩
      unfold ByR
      rw [List.length_append, HML.out, beB_len]
      rw [hkn, List.take_of_length_le (by rw [beB_len]; omega)] at ho
      exact ho
theorem lnameT (x : ByteArray) (base : Nat) (sv : Value) (xs : List Nat) (w : World) (hr : ByR w base sv xs) (hb : base ≤ w.heap.size) (hm : xs.length ≤ 50000) (hx : x.size < 256) :
    Calls Tryz.prog 121 #[sv, .string x] w fun e' w' => ∃ v', e' = .returned v' ∧ ByT base w w' v' (xs ++ (nmL x)) := by
  obtain ⟨i0, hi, hz0, hz1, hz2⟩ := info_parts infoByte
  obtain ⟨m, hml⟩ : ∃ m, xs.length = m := ⟨_, rfl⟩
  have HML := Lib.hid hml
  rw [hml] at hm
  have hr1 : w.ownsRow base 5 1 sv m (xs.map byteV) := by
    unfold ByR at hr
    rw [hml] at hr
    exact hr
  have hw : IntKind.u8.wrap (x.size : Int) = (x.size : Int) := by rw [IntKind.wrap_u8]; omega
  clear hml hr
  go_enter Tryz.func121, Tryz.ntmps121
  go_wp2_with (first | (at_builtin; refine Lib.wpList_append_own_string _ rfl (.tmp 11) (.tmp 12) _ _ rfl base 5 i0 Tryz.underlying128 Tryz.underlying9 hi hz0 hz1 hz2 _ _ _ rfl (ho2) x rfl (by unfold maxLen; omega) (by omega) ((by have := hg2.size; simp at this; omega)) ?_; intro s3 w3 ho3 hg3 hn3) | (at_builtin; refine wpList_app _ rfl (.tmp 5) (.tmp 9) _ rfl base 5 i0 _ 1 1 Tryz.underlying128 hi hz0 hz1 hz2 rfl (by decide) _ _ _ rfl (hr1.alloc _) _ 1 _ [byteV (x.size)] rfl (Rd.one (by simp [byteV])) (by simp [byteV, Value.oneCell']) (by unfold maxLen; omega) (by omega) (by simp; omega) ?_; intro s2 w2 ho2 hg2 hv2))
  go_ret
  have b2 : Below base w w2 := ((Below.refl base w).alloc hb _).trans (below_app (Nat.le_refl _) (by simp; omega) (hr1.alloc _) hg2)
  have k2 : KeepU w w2 := (KeepU.alloc_ _ _).trans (KeepU.of_grown (hr1.alloc _) hg2)
  have hb2 : base ≤ w2.heap.size := Nat.le_trans hb b2.size
  refine ⟨_, rfl, ?_, b2.trans (below_app (Nat.le_refl _) hb2 ho2 hg3), k2.trans (KeepU.of_grown ho2 hg3)⟩
  unfold ByR nmL
  have e : (xs ++ x.size :: bytN x).map byteV = (xs.map byteV ++ [byteV x.size]) ++ Lib.strCells x := by rw [strCells_byt]; simp
  rw [e]
  have e2 : (xs ++ x.size :: bytN x).length = m + 1 + x.size := by rw [List.length_append, HML.out, List.length_cons, bytN_len]; omega
  rw [e2]
  exact ho3
theorem fm_len {α : Type} (f : α → List Nat) (c : Nat) : ∀ (l : List α), (∀ x ∈ l, (f x).length ≤ c) → (l.flatMap f).length ≤ c * l.length
  | [], _ => by simp
  | x :: l, h => by
    rw [List.flatMap_cons, List.length_append, List.length_cons]
    have h1 := h x (by simp)
    have h2 := fm_len f c l (fun y hy => h y (by simp [hy]))
    rw [Nat.mul_add]
    omega
theorem fm_take {α : Type} (f : α → List Nat) {l : List α} {k : Nat} {x : α} (h : l[k]? = some x) : (l.take (k + 1)).flatMap f = (l.take k).flatMap f ++ f x := by
  rw [List.take_add_one, h, List.flatMap_append]
  simp
theorem nmL_len (x : ByteArray) : (nmL x).length = x.size + 1 := by
  unfold nmL
  rw [List.length_cons, bytN_len]
theorem bkL_len (b : Bk) : (bkL b).length = b.nm.size + 4 := by
  unfold bkL
  rw [List.length_append, iL_len, nmL_len]
  omega
theorem bapp3 (v : Int) (base : Nat) (sv : Value) (xs : List Nat) (w : World) (hr : ByR w base sv xs) (hb : base ≤ w.heap.size) (hm : xs.length ≤ 50000) (h0 : 0 ≤ v) (h1 : v < 4294967296) : Calls Tryz.prog 120 #[sv, .int .i64 v, .int .i64 3] w fun e' w' => ∃ v', e' = .returned v' ∧ ByT base w w' v' (xs ++ (iL v 3)) := by
  obtain ⟨k, rfl⟩ := Int.eq_ofNat_of_zero_le h0
  exact bappT k 3 base sv xs w hr hb hm (by omega) (by decide) (by decide)
theorem bapp2 (v : Int) (base : Nat) (sv : Value) (xs : List Nat) (w : World) (hr : ByR w base sv xs) (hb : base ≤ w.heap.size) (hm : xs.length ≤ 50000) (h0 : 0 ≤ v) (h1 : v < 4294967296) : Calls Tryz.prog 120 #[sv, .int .i64 v, .int .i64 2] w fun e' w' => ∃ v', e' = .returned v' ∧ ByT base w w' v' (xs ++ (iL v 2)) := by
  obtain ⟨k, rfl⟩ := Int.eq_ofNat_of_zero_le h0
  exact bappT k 2 base sv xs w hr hb hm (by omega) (by decide) (by decide)
structure NtS (n : Nt) : Prop where
  ok : OkN n
  nm : n.nm.size ≤ 20
  tl : n.tg.length ≤ 4
  tg : ∀ t ∈ n.tg, t.size ≤ 20
  sl : n.sh.length ≤ 8
theorem ntL_len {n : Nt} (h : NtS n) : (ntL n).length ≤ 200 := by
  unfold ntL
  have h1 := fm_len nmL 21 n.tg (fun t ht => by have := h.tg t ht; rw [nmL_len]; omega)
  have h2 := fm_len (fun z => iL z 2) 2 n.sh (fun t _ => by rw [iL_len]; exact Nat.le_refl _)
  have h3 := h.nm
  have h4 := h.tl
  have h5 := h.sl
  simp only [List.length_append, List.length_cons, iL_len, nmL_len]
  have h6 : 21 * n.tg.length ≤ 84 := by omega
  omega
theorem may_sz {x : ByteArray} (h : mayN x = true) : x.size ≤ 20 := (name_iff.1 (show nameB x.data.toList = true from h)).2.1
theorem tgs_may : ∀ (l p : List ByteArray), tagsFrom p l = true → ∀ t ∈ l, mayN t = true
  | [], _, _ => fun t ht => by simp at ht
  | x :: l, p, h => by
    unfold tagsFrom at h
    rw [Bool.and_eq_true, Bool.and_eq_true] at h
    intro t ht
    rcases List.mem_cons.1 ht with rfl | ht
    · exact h.1
    · exact tgs_may l [x] h.2.2 t ht
theorem MayF.nts {s : Sf} (h : MayF s) {n : Nt} (hn : n ∈ s.ts) : NtS n := by
  obtain ⟨m1, m2, m3, m4⟩ := mayNt_iff.1 (h.ts n hn).2.2
  unfold mayTg at m4
  rw [Bool.and_eq_true, decide_eq_true_eq] at m4
  exact ⟨h.ok.ts n hn, may_sz m1, m4.1, fun t ht => may_sz (tgs_may _ _ m4.2 t ht), ((sh_iff _ _ _).1 h.sh).1 n hn⟩
theorem lnoteT (n : Nt) (At As : Option Addr) (ct cs : Nat) (base : Nat) (sv : Value) (xs : List Nat) (w : World) (hr : ByR w base sv xs) (hb : base ≤ w.heap.size) (hm : xs.length ≤ 20000) (hn : NtS n) (hA : Sl w base At (n.tg.map strV)) (hZ : Sl w base As (n.sh.map (Value.int .i64))) :
    Calls Tryz.prog 122 #[sv, .agg #[.int .i64 n.id, .int .i64 n.bk, .string n.nm, .slice At n.tg.length ct, .slice As n.sh.length cs]] w fun e' w' => ∃ v', e' = .returned v' ∧ ByT base w w' v' (xs ++ (ntL n)) := by
  obtain ⟨i0, hi, hz0, hz1, hz2⟩ := info_parts infoByte
  have B1 : Blk (w.alloc (.cells #[.int .i64 n.id, .int .i64 n.bk, .string n.nm, .slice At n.tg.length ct, .slice As n.sh.length cs] 83)) w.heap.size 83 #[.int .i64 n.id, .int .i64 n.bk, .string n.nm, .slice At n.tg.length ct, .slice As n.sh.length cs] := Blk.new_ w 83 #[.int .i64 n.id, .int .i64 n.bk, .string n.nm, .slice At n.tg.length ct, .slice As n.sh.length cs]
  have HT : ByT base w (w.alloc (.cells #[.int .i64 n.id, .int .i64 n.bk, .string n.nm, .slice At n.tg.length ct, .slice As n.sh.length cs] 83)) sv xs := (ByT.start hr).alloc hb _
  obtain ⟨X0, hX0⟩ : ∃ X, xs = X := ⟨_, rfl⟩
  rw [hX0] at HT hm
  have lX0 : X0.length ≤ 20000 := hm
  have HX0 := Lib.hid hX0
  obtain ⟨W, hW⟩ : ∃ V : World, V = (w.alloc (.cells #[.int .i64 n.id, .int .i64 n.bk, .string n.nm, .slice At n.tg.length ct, .slice As n.sh.length cs] 83)) := ⟨_, rfl⟩
  have b0 := hn.ok.a
  have b1 := hn.ok.b
  have b2 := hn.nm
  have b3 := hn.tl
  have b4 := hn.sl
  have HNS := Lib.hid hn
  obtain ⟨L, hL⟩ : ∃ L, n.tg.length = L := ⟨_, rfl⟩
  obtain ⟨M, hM⟩ : ∃ M, n.sh.length = M := ⟨_, rfl⟩
  rw [hL] at b3 hW B1 ⊢
  rw [hM] at b4 hW B1 ⊢
  have HL := Lib.hid hL
  have HM := Lib.hid hM
  rw [show w.alloc (.cells #[.int .i64 n.id, .int .i64 n.bk, .string n.nm, .slice At n.tg.length ct, .slice As n.sh.length cs] 83) = W by rw [hW, HL.out, HM.out]] at HT
  have hwl : IntKind.u8.wrap (L : Int) = (L : Int) := by rw [IntKind.wrap_u8]; omega
  have hwm : IntKind.u8.wrap (M : Int) = (M : Int) := by rw [IntKind.wrap_u8]; omega
  clear hX0 hm hr hn hL hM
  go_enter Tryz.func122, Tryz.ntmps122
  go_upto_region 1 with fail
  rw [← hW] at B1 ⊢
  clear hW
  have k0 := B1.cell_ 0
  have k1 := B1.cell_ 1
  have k2 := B1.cell_ 2
  have k3 := B1.cell_ 3
  have k4 := B1.cell_ 4
  simp at k0 k1 k2 k3 k4
  go_upto_region 4 with (first | (go_at_call 120; ((with_reducible refine (bapp3 n.id base _ X0 _ HT.row (Nat.le_trans hb HT.be.size) (by omega) b0.1 (by omega)).mono ?_); rintro e' w1 ⟨v1, rfl, HN⟩; have HT := HT.step HN; have B1 := B1.keepU HN.kp (by decide); obtain ⟨X1, hX1⟩ : ∃ X, X0 ++ (iL n.id 3) = X := ⟨_, rfl⟩; rw [hX1] at HT; have lX1 : X1.length ≤ 20003 := (by rw [← hX1, List.length_append, iL_len]; omega); have HX1 := Lib.hid hX1; clear hX1 HN; (clear k0 k1 k2 k3 k4); have k0 := B1.cell_ 0; have k1 := B1.cell_ 1; have k2 := B1.cell_ 2; have k3 := B1.cell_ 3; have k4 := B1.cell_ 4; simp at k0 k1 k2 k3 k4)) | (go_at_call 120; ((with_reducible refine (bapp3 n.bk base _ X1 _ HT.row (Nat.le_trans hb HT.be.size) (by omega) b1.1 (by omega)).mono ?_); rintro e' w2 ⟨v1, rfl, HN⟩; have HT := HT.step HN; have B1 := B1.keepU HN.kp (by decide); obtain ⟨X2, hX2⟩ : ∃ X, X1 ++ (iL n.bk 3) = X := ⟨_, rfl⟩; rw [hX2] at HT; have lX2 : X2.length ≤ 20006 := (by rw [← hX2, List.length_append, iL_len]; omega); have HX2 := Lib.hid hX2; clear hX2 HN; (clear k0 k1 k2 k3 k4); have k0 := B1.cell_ 0; have k1 := B1.cell_ 1; have k2 := B1.cell_ 2; have k3 := B1.cell_ 3; have k4 := B1.cell_ 4; simp at k0 k1 k2 k3 k4)) | (go_at_call 121; ((with_reducible refine (lnameT n.nm base _ X2 _ HT.row (Nat.le_trans hb HT.be.size) (by omega) (by omega)).mono ?_); rintro e' w3 ⟨v1, rfl, HN⟩; have HT := HT.step HN; have B1 := B1.keepU HN.kp (by decide); obtain ⟨X3, hX3⟩ : ∃ X, X2 ++ (nmL n.nm) = X := ⟨_, rfl⟩; rw [hX3] at HT; have lX3 : X3.length ≤ 20027 := (by rw [← hX3, List.length_append, nmL_len]; omega); have HX3 := Lib.hid hX3; clear hX3 HN; (clear k0 k1 k2 k3 k4); have k0 := B1.cell_ 0; have k1 := B1.cell_ 1; have k2 := B1.cell_ 2; have k3 := B1.cell_ 3; have k4 := B1.cell_ 4; simp at k0 k1 k2 k3 k4)))
  go_upto_region 5 with (at_builtin; refine wpList_app _ rfl (.tmp 21) (.tmp 26) _ rfl base 5 i0 _ 1 1 Tryz.underlying128 hi hz0 hz1 hz2 rfl (by decide) _ _ _ rfl (World.ownsRow.alloc HT.row _) _ 1 _ [byteV L] rfl (Rd.one (by simp [byteV])) (by simp [byteV, Value.oneCell']) (by unfold maxLen; omega) (by omega) (by have := HT.be.size; simp; omega) ?_; intro v4 w4 ho2 hg2 hv2)
  have HN : ByT base w3 w4 v4 (X3 ++ [L]) := ⟨ByR.put ho2 rfl rfl, ((Below.refl base w3).alloc (Nat.le_trans hb HT.be.size) _).trans (below_app (Nat.le_refl _) (by have := HT.be.size; simp; omega) (World.ownsRow.alloc HT.row _) hg2), (KeepU.alloc_ _ _).trans (KeepU.of_grown (World.ownsRow.alloc HT.row _) hg2)⟩
  clear ho2 hg2 hv2
  have HT := HT.step HN; have B1 := B1.keepU HN.kp (by decide); obtain ⟨X4, hX4⟩ : ∃ X, X3 ++ ([L]) = X := ⟨_, rfl⟩; rw [hX4] at HT; have lX4 : X4.length ≤ 20028 := (by rw [← hX4, List.length_append, List.length_singleton]; omega); have HX4 := Lib.hid hX4; clear hX4 HN
  (clear k0 k1 k2 k3 k4); have k0 := B1.cell_ 0; have k1 := B1.cell_ 1; have k2 := B1.cell_ 2; have k3 := B1.cell_ 3; have k4 := B1.cell_ 4; simp at k0 k1 k2 k3 k4
  obtain ⟨w5, hw5⟩ : ∃ V : World, V = w4 := ⟨_, rfl⟩
  subst hw5
  go_wp2_with fail
  go_loopw [0, 31] (fun s i wr => ∃ k : Nat, k ≤ L ∧ i = .int .i64 (k : Int) ∧ ByT base w5 wr s (X4 ++ (n.tg.take k).flatMap nmL)) (fun _ i _ => L - (intOf i).toNat)
  case atStart => exact ⟨0, Nat.zero_le _, rfl, by simpa using ByT.start HT.row⟩
  case round =>
    obtain ⟨k, hk, rfl, HR⟩ := hrel
    have B1r := B1.keepU HR.kp (by decide)
    have hbr : base ≤ wr.heap.size := Nat.le_trans (Nat.le_trans hb HT.be.size) HR.be.size
    clear k0 k1 k2 k3 k4
    have lR : (X4 ++ (n.tg.take k).flatMap nmL).length ≤ 20150 := by
      have h1 := fm_len nmL 21 (n.tg.take k) (fun x hx => by have := HNS.out.tg x (List.mem_of_mem_take hx); rw [nmL_len]; omega)
      rw [List.length_append]
      rw [List.length_take] at h1
      have h2 : 21 * min k n.tg.length ≤ 21 * L := Nat.mul_le_mul_left _ (by omega)
      omega
    by_cases hlt : k < L
    · have hkx : k < n.tg.length := by have := HL.out; omega
      obtain ⟨x, hx⟩ : ∃ x, n.tg[k]? = some x := ⟨_, List.getElem?_eq_getElem hkx⟩
      obtain ⟨b9, o9, rfl, l9, q9⟩ := hA.at_ (by rw [List.length_map]; omega)
      have y9 : wr.cell? ⟨b9, o9 + k, none⟩ = some (.string x) := ((HT.be.trans HR.be).cell (p := ⟨b9, o9 + k, none⟩) l9).trans (q9 k _ (by rw [List.getElem?_map, hx]; rfl))
      have hft := fm_take nmL hx
      have hxs : x.size ≤ 20 := HNS.out.tg x (List.mem_of_getElem? hx)
      have HFT := Lib.hid hft
      have j0 : (0 : Int) ≤ (k : Int) := by omega
      have j1 : (k : Int) < (L : Int) := by omega
      clear hft hx q9 hkx
      obtain ⟨XX, hXX⟩ : ∃ X, X4 ++ (n.tg.take k).flatMap nmL = X := ⟨_, rfl⟩
      rw [hXX] at HR lR
      have HXX := Lib.hid hXX
      clear hXX
      go_wp2_with (go_at_call 121; ((with_reducible refine (lnameT x base _ XX _ HR.row hbr (by omega) (by omega)).mono ?_); rintro e' w6 ⟨v1, rfl, HN⟩; skip))
      go_roundw
      case rel => exact ⟨k + 1, by omega, by go_num, by rw [HFT.out, ← List.append_assoc, HXX.out]; exact HR.step HN⟩
      case measure => simp [intOf]; omega
    · obtain rfl : L = k := by omega
      rw [List.take_of_length_le (by have := HL.out; omega)] at HR lR
      clear hlt
      have k4 := B1r.cell_ 4
      simp at k4
      have HTn := HT.step HR
      have B1 := B1r
      have HT := HTn
      obtain ⟨X5, hX5⟩ : ∃ X, X4 ++ n.tg.flatMap nmL = X := ⟨_, rfl⟩
      rw [hX5] at HT lR
      have lX5 := lR
      have HX5 := Lib.hid hX5
      clear hX5 HTn B1r HR lR hbr
      go_upto_region 11 with (at_builtin; refine wpList_app _ rfl (.tmp 39) (.tmp 44) _ rfl base 5 i0 _ 1 1 Tryz.underlying128 hi hz0 hz1 hz2 rfl (by decide) _ _ _ rfl (World.ownsRow.alloc HT.row _) _ 1 _ [byteV M] rfl (Rd.one (by simp [byteV])) (by simp [byteV, Value.oneCell']) (by unfold maxLen; omega) (by omega) (by have := HT.be.size; simp; omega) ?_; intro v7 w7 ho2 hg2 hv2)
      have HN : ByT base wr w7 v7 (X5 ++ [M]) := ⟨ByR.put ho2 rfl rfl, ((Below.refl base wr).alloc (Nat.le_trans hb HT.be.size) _).trans (below_app (Nat.le_refl _) (by have := HT.be.size; simp; omega) (World.ownsRow.alloc HT.row _) hg2), (KeepU.alloc_ _ _).trans (KeepU.of_grown (World.ownsRow.alloc HT.row _) hg2)⟩
      clear ho2 hg2 hv2
      have HT := HT.step HN; have B1 := B1.keepU HN.kp (by decide); obtain ⟨X6, hX6⟩ : ∃ X, X5 ++ ([M]) = X := ⟨_, rfl⟩; rw [hX6] at HT; have lX6 : X6.length ≤ 20200 := (by rw [← hX6, List.length_append, List.length_singleton]; omega); have HX6 := Lib.hid hX6; clear hX6 HN
      clear k4
      have k4 := B1.cell_ 4
      simp at k4
      obtain ⟨w5, hw5⟩ : ∃ V : World, V = w7 := ⟨_, rfl⟩
      subst hw5
      go_wp2_with fail
      go_loopw [0, 49] (fun s i wr => ∃ k : Nat, k ≤ M ∧ i = .int .i64 (k : Int) ∧ ByT base w5 wr s (X6 ++ (n.sh.take k).flatMap (fun z => iL z 2))) (fun _ i _ => M - (intOf i).toNat)
      case atStart => exact ⟨0, Nat.zero_le _, rfl, by simpa using ByT.start HT.row⟩
      case round =>
        obtain ⟨k, hk, rfl, HR⟩ := hrel
        have B1r := B1.keepU HR.kp (by decide)
        have hbr : base ≤ wr.heap.size := Nat.le_trans (Nat.le_trans hb HT.be.size) HR.be.size
        clear k4
        have lR : (X6 ++ (n.sh.take k).flatMap (fun z => iL z 2)).length ≤ 20300 := by
          have h1 := fm_len (fun z => iL z 2) 2 (n.sh.take k) (fun x hx => by rw [iL_len]; exact Nat.le_refl _)
          rw [List.length_append]
          rw [List.length_take] at h1
          have h2 : 2 * min k n.sh.length ≤ 2 * M := Nat.mul_le_mul_left _ (by omega)
          omega
        by_cases hlt : k < M
        · have hkx : k < n.sh.length := by have := HM.out; omega
          obtain ⟨x, hx⟩ : ∃ x, n.sh[k]? = some x := ⟨_, List.getElem?_eq_getElem hkx⟩
          obtain ⟨b9, o9, rfl, l9, q9⟩ := hZ.at_ (by rw [List.length_map]; omega)
          have y9 : wr.cell? ⟨b9, o9 + k, none⟩ = some (.int .i64 x) := ((HT.be.trans HR.be).cell (p := ⟨b9, o9 + k, none⟩) l9).trans (q9 k _ (by rw [List.getElem?_map, hx]; rfl))
          have hft := fm_take (fun z => iL z 2) hx
          have hxs : 0 ≤ x ∧ x < 65536 := HNS.out.ok.c x (List.mem_of_getElem? hx)
          have HFT := Lib.hid hft
          have j0 : (0 : Int) ≤ (k : Int) := by omega
          have j1 : (k : Int) < (M : Int) := by omega
          clear hft hx q9 hkx
          obtain ⟨XX, hXX⟩ : ∃ X, X6 ++ (n.sh.take k).flatMap (fun z => iL z 2) = X := ⟨_, rfl⟩
          rw [hXX] at HR lR
          have HXX := Lib.hid hXX
          clear hXX
          go_wp2_with (go_at_call 120; ((with_reducible refine (bapp2 x base _ XX _ HR.row hbr (by omega) hxs.1 (by omega)).mono ?_); rintro e' w8 ⟨v1, rfl, HN⟩; skip))
          go_roundw
          case rel => exact ⟨k + 1, by omega, by go_num, by rw [HFT.out, ← List.append_assoc, HXX.out]; exact HR.step HN⟩
          case measure => simp [intOf]; omega
        · obtain rfl : M = k := by omega
          rw [List.take_of_length_le (by have := HM.out; omega)] at HR lR
          clear hlt
          have HTn := HT.step HR
          obtain ⟨X7, hX7⟩ : ∃ X, X6 ++ n.sh.flatMap (fun z => iL z 2) = X := ⟨_, rfl⟩
          rw [hX7] at HTn
          go_wp2_with fail
          go_ret
          refine ⟨_, rfl, ?_⟩
          have e : xs ++ ntL n = X7 := by
            unfold ntL
            rw [← hX7, ← HX6.out, ← HX5.out, ← HX4.out, ← HX3.out, ← HX2.out, ← HX1.out, ← HX0.out, HL.out, HM.out]
            simp [List.append_assoc]
          rw [e]
          exact HTn
theorem lay_no (s : Sf) (v : Value) (w : World) (hS : ShR w w.heap.size v s) (hT : Tabs w) (hM : mayS s = false) :
    Calls Tryz.prog 81 #[v] w fun e' w' => e' = .returned (.tuple #[.slice none 0 0, .int .i64 2]) ∧ Below w.heap.size w w' := by
  have hS0 := hS
  obtain ⟨Ab, cb, An, cn, rfl, hB, hN, hcb, hmb, hcn, hmn⟩ := hS.ex
  clear hS
  have HB : Below w.heap.size w (w.alloc (.cells #[.int .i64 s.nb, .int .i64 s.nn, .int .i64 s.ns, .slice Ab s.bs.length cb, .slice An s.ts.length cn] 41)) := ((Below.refl w.heap.size w).alloc (Nat.le_refl _) _)
  have B1 : Blk (w.alloc (.cells #[.int .i64 s.nb, .int .i64 s.nn, .int .i64 s.ns, .slice Ab s.bs.length cb, .slice An s.ts.length cn] 41)) w.heap.size 41 #[.int .i64 s.nb, .int .i64 s.nn, .int .i64 s.ns, .slice Ab s.bs.length cb, .slice An s.ts.length cn] := Blk.new_ w 41 #[.int .i64 s.nb, .int .i64 s.nn, .int .i64 s.ns, .slice Ab s.bs.length cb, .slice An s.ts.length cn]
  have S1 : ShR (w.alloc (.cells #[.int .i64 s.nb, .int .i64 s.nn, .int .i64 s.ns, .slice Ab s.bs.length cb, .slice An s.ts.length cn] 41)) ((w.alloc (.cells #[.int .i64 s.nb, .int .i64 s.nn, .int .i64 s.ns, .slice Ab s.bs.length cb, .slice An s.ts.length cn] 41))).heap.size (.agg #[.int .i64 s.nb, .int .i64 s.nn, .int .i64 s.ns, .slice Ab s.bs.length cb, .slice An s.ts.length cn]) s := hS0.next HB
  have T1 := hT.next HB
  have HM := Lib.hid hM
  clear hM hS0 hT hB hN hcb hmb hcn hmn
  go_enter Tryz.func81, Tryz.ntmps81
  go_wp2_with (first | (go_at_call 52; ((with_reducible refine (smay_any s _ _ S1 T1 _ HM.out).mono ?_); rintro e' w3 ⟨rfl, bx⟩; have B1 := B1.below bx B1.lt; have HB := btr HB HB.size bx; (try clear k0 k1 k2 k3 k4); have k0 := B1.cell_ 0; have k1 := B1.cell_ 1; have k2 := B1.cell_ 2; have k3 := B1.cell_ 3; have k4 := B1.cell_ 4; simp at k0 k1 k2 k3 k4; clear bx)))
  go_ret2
  exact ⟨rfl, HB⟩
theorem lay_yes (s : Sf) (v : Value) (w : World) (hS : ShR w w.heap.size v s) (hT : Tabs w) (hF : MayF s) :
    Calls Tryz.prog 81 #[v] w fun e' w' => ∃ v', e' = .returned (.tuple #[v', .int .i64 0]) ∧ ByR w' w.heap.size v' (shL s) ∧ Below w.heap.size w w' := by
  have hS0 := hS
  obtain ⟨Ab, cb, An, cn, rfl, hB, hN, hcb, hmb, hcn, hmn⟩ := hS.ex
  clear hS
  have HB : Below w.heap.size w (w.alloc (.cells #[.int .i64 s.nb, .int .i64 s.nn, .int .i64 s.ns, .slice Ab s.bs.length cb, .slice An s.ts.length cn] 41)) := ((Below.refl w.heap.size w).alloc (Nat.le_refl _) _)
  have B1 : Blk (w.alloc (.cells #[.int .i64 s.nb, .int .i64 s.nn, .int .i64 s.ns, .slice Ab s.bs.length cb, .slice An s.ts.length cn] 41)) w.heap.size 41 #[.int .i64 s.nb, .int .i64 s.nn, .int .i64 s.ns, .slice Ab s.bs.length cb, .slice An s.ts.length cn] := Blk.new_ w 41 #[.int .i64 s.nb, .int .i64 s.nn, .int .i64 s.ns, .slice Ab s.bs.length cb, .slice An s.ts.length cn]
  have S1 : ShR (w.alloc (.cells #[.int .i64 s.nb, .int .i64 s.nn, .int .i64 s.ns, .slice Ab s.bs.length cb, .slice An s.ts.length cn] 41)) ((w.alloc (.cells #[.int .i64 s.nb, .int .i64 s.nn, .int .i64 s.ns, .slice Ab s.bs.length cb, .slice An s.ts.length cn] 41))).heap.size (.agg #[.int .i64 s.nb, .int .i64 s.nn, .int .i64 s.ns, .slice Ab s.bs.length cb, .slice An s.ts.length cn]) s := hS0.next HB
  have T1 := hT.next HB
  have HM : Hid (mayS s = true) := Lib.hid (mayS_conv hF)
  have HF := Lib.hid hF
  obtain ⟨i0, hi, hz0, hz1, hz2⟩ := info_parts infoByte
  obtain ⟨es, hel, hse, hnt⟩ := hN.ex
  obtain ⟨L, hL⟩ : ∃ L, s.bs.length = L := ⟨_, rfl⟩
  obtain ⟨M, hM⟩ : ∃ M, s.ts.length = M := ⟨_, rfl⟩
  have HL := Lib.hid hL
  have HMM := Lib.hid hM
  have hL6 : L ≤ 6 := by rw [← hL]; exact hF.bl
  have hM12 : M ≤ 12 := by rw [← hM]; exact hF.tl
  have c0 := hF.nb
  have c1 := hF.nn
  have c2 := hF.ns
  have hwl : IntKind.u8.wrap (L : Int) = (L : Int) := by rw [IntKind.wrap_u8]; omega
  have hwm : IntKind.u8.wrap (M : Int) = (M : Int) := by rw [IntKind.wrap_u8]; omega
  clear hL hM hS0 hT hcb hmb hcn hmn hF hN
  go_enter Tryz.func81, Tryz.ntmps81
  go_upto_region 3 with (go_at_call 52; ((with_reducible refine (smay_any s _ _ S1 T1 _ HM.out).mono ?_); rintro e' w3 ⟨rfl, bx⟩; have B1 := B1.below bx B1.lt; have HB := btr HB HB.size bx; (try clear k0 k1 k2 k3 k4); have k0 := B1.cell_ 0; have k1 := B1.cell_ 1; have k2 := B1.cell_ 2; have k3 := B1.cell_ 3; have k4 := B1.cell_ 4; simp at k0 k1 k2 k3 k4; clear bx))
  have HT : ByT w.heap.size w3 w3 (.slice none 0 0) [] := ByT.start (ByR.nil _ _)
  have hb3 : w.heap.size ≤ w3.heap.size := HB.size
  have HB3 := HB
  obtain ⟨X0, hX0⟩ : ∃ X : List Nat, [] = X := ⟨_, rfl⟩
  rw [hX0] at HT
  have lX0 : X0.length ≤ 0 := by rw [← hX0]; exact Nat.le_refl _
  have HX0 := Lib.hid hX0
  rw [HL.out] at B1 k3
  rw [HMM.out] at B1 k4
  clear hX0 HB S1 T1
  go_upto_region 6 with (first | (go_at_call 120; ((with_reducible refine (bapp3 s.nb w.heap.size _ X0 _ HT.row (Nat.le_trans hb3 HT.be.size) (by omega) (by omega) (by omega)).mono ?_); rintro e' w4 ⟨v1, rfl, HN⟩; have HT := HT.step HN; have B1 := B1.keepU HN.kp (by decide); obtain ⟨X1, hX1⟩ : ∃ X, X0 ++ (iL s.nb 3) = X := ⟨_, rfl⟩; rw [hX1] at HT; have lX1 : X1.length ≤ 3 := (by rw [← hX1, List.length_append, iL_len]; omega); have HX1 := Lib.hid hX1; clear hX1 HN; (clear k0 k1 k2 k3 k4); have k0 := B1.cell_ 0; have k1 := B1.cell_ 1; have k2 := B1.cell_ 2; have k3 := B1.cell_ 3; have k4 := B1.cell_ 4; simp at k0 k1 k2 k3 k4)) | (go_at_call 120; ((with_reducible refine (bapp3 s.nn w.heap.size _ X1 _ HT.row (Nat.le_trans hb3 HT.be.size) (by omega) (by omega) (by omega)).mono ?_); rintro e' w5 ⟨v1, rfl, HN⟩; have HT := HT.step HN; have B1 := B1.keepU HN.kp (by decide); obtain ⟨X2, hX2⟩ : ∃ X, X1 ++ (iL s.nn 3) = X := ⟨_, rfl⟩; rw [hX2] at HT; have lX2 : X2.length ≤ 6 := (by rw [← hX2, List.length_append, iL_len]; omega); have HX2 := Lib.hid hX2; clear hX2 HN; (clear k0 k1 k2 k3 k4); have k0 := B1.cell_ 0; have k1 := B1.cell_ 1; have k2 := B1.cell_ 2; have k3 := B1.cell_ 3; have k4 := B1.cell_ 4; simp at k0 k1 k2 k3 k4)) | (go_at_call 120; ((with_reducible refine (bapp3 s.ns w.heap.size _ X2 _ HT.row (Nat.le_trans hb3 HT.be.size) (by omega) (by omega) (by omega)).mono ?_); rintro e' w6 ⟨v1, rfl, HN⟩; have HT := HT.step HN; have B1 := B1.keepU HN.kp (by decide); obtain ⟨X3, hX3⟩ : ∃ X, X2 ++ (iL s.ns 3) = X := ⟨_, rfl⟩; rw [hX3] at HT; have lX3 : X3.length ≤ 9 := (by rw [← hX3, List.length_append, iL_len]; omega); have HX3 := Lib.hid hX3; clear hX3 HN; (clear k0 k1 k2 k3 k4); have k0 := B1.cell_ 0; have k1 := B1.cell_ 1; have k2 := B1.cell_ 2; have k3 := B1.cell_ 3; have k4 := B1.cell_ 4; simp at k0 k1 k2 k3 k4)))
  go_upto_region 7 with (at_builtin; refine wpList_app _ rfl (.tmp 23) (.tmp 28) _ rfl w.heap.size 5 i0 _ 1 1 Tryz.underlying128 hi hz0 hz1 hz2 rfl (by decide) _ _ _ rfl (World.ownsRow.alloc HT.row _) _ 1 _ [byteV L] rfl (Rd.one (by simp [byteV])) (by simp [byteV, Value.oneCell']) (by unfold maxLen; omega) (by omega) (by have := HT.be.size; simp; omega) ?_; intro v7 w7 ho2 hg2 hv2)
  have HN : ByT w.heap.size w6 w7 v7 (X3 ++ [L]) := ⟨ByR.put ho2 rfl rfl, ((Below.refl w.heap.size w6).alloc (Nat.le_trans hb3 HT.be.size) _).trans (below_app (Nat.le_refl _) (by have := HT.be.size; simp; omega) (World.ownsRow.alloc HT.row _) hg2), (KeepU.alloc_ _ _).trans (KeepU.of_grown (World.ownsRow.alloc HT.row _) hg2)⟩
  clear ho2 hg2 hv2
  have HT := HT.step HN; have B1 := B1.keepU HN.kp (by decide); obtain ⟨X4, hX4⟩ : ∃ X, X3 ++ ([L]) = X := ⟨_, rfl⟩; rw [hX4] at HT; have lX4 : X4.length ≤ 10 := (by rw [← hX4, List.length_append, List.length_singleton]; omega); have HX4 := Lib.hid hX4; clear hX4 HN
  (clear k0 k1 k2 k3 k4); have k0 := B1.cell_ 0; have k1 := B1.cell_ 1; have k2 := B1.cell_ 2; have k3 := B1.cell_ 3; have k4 := B1.cell_ 4; simp at k0 k1 k2 k3 k4
  obtain ⟨wk, hwk⟩ : ∃ V : World, V = w7 := ⟨_, rfl⟩
  subst hwk
  go_wp2_with fail
  go_loopw [4, 33] (fun sv iv wr => ∃ k : Nat, k ≤ L ∧ iv = .int .i64 (k : Int) ∧ ByT w.heap.size wk wr sv (X4 ++ (s.bs.take k).flatMap bkL)) (fun _ iv _ => L - (intOf iv).toNat)
  case atStart => exact ⟨0, Nat.zero_le _, rfl, by simpa using ByT.start HT.row⟩
  case round =>
    obtain ⟨k, hk, rfl, HR⟩ := hrel
    have B1r := B1.keepU HR.kp (by decide)
    have hbr : w.heap.size ≤ wr.heap.size := Nat.le_trans (Nat.le_trans hb3 HT.be.size) HR.be.size
    have hbw : Below w.heap.size w wr := (HB3.trans HT.be).trans HR.be
    clear k0 k1 k2 k3 k4
    have lR : (X4 ++ (s.bs.take k).flatMap bkL).length ≤ 200 := by
      have h1 := fm_len bkL 24 (s.bs.take k) (fun x hx => by have := may_sz (HF.out.bs x (List.mem_of_mem_take hx)).2.2.1; rw [bkL_len]; omega)
      rw [List.length_append]
      rw [List.length_take] at h1
      have h2 : 24 * min k s.bs.length ≤ 24 * L := Nat.mul_le_mul_left _ (by omega)
      omega
    by_cases hlt : k < L
    · have hkx : k < s.bs.length := by have := HL.out; omega
      obtain ⟨x, hx⟩ : ∃ x, s.bs[k]? = some x := ⟨_, List.getElem?_eq_getElem hkx⟩
      have he : (s.bs.map bkC)[k]? = some (bkC x) := by rw [List.getElem?_map, hx]; rfl
      obtain ⟨b9, o9, rfl, l9, q9⟩ := SlE.at_ hB (by rw [List.length_map]; omega)
      have y0 : wr.cell? ⟨b9, o9 + k * 2, none⟩ = some (.int .i64 x.id) := (hbw.cell (p := ⟨b9, _, none⟩) l9).trans (q9 k _ he 0 _ rfl)
      have y1 : wr.cell? ⟨b9, o9 + k * 2 + 1, none⟩ = some (.string x.nm) := (hbw.cell (p := ⟨b9, _, none⟩) l9).trans (q9 k _ he 1 _ rfl)
      clear he
      have hxs : 0 ≤ x.id ∧ x.id < 16777216 := (HF.out.ok.bs x (List.mem_of_getElem? hx)).a
      have hxn : x.nm.size ≤ 20 := may_sz (HF.out.bs x (List.mem_of_getElem? hx)).2.2.1
      have hft := fm_take bkL hx
      have HFT := Lib.hid hft
      have j0 : (0 : Int) ≤ (k : Int) := by omega
      have j1 : (k : Int) < (L : Int) := by omega
      have HXM := Lib.hid (List.mem_of_getElem? hx)
      clear hft hx q9 hkx
      obtain ⟨XX, hXX⟩ : ∃ X, X4 ++ (s.bs.take k).flatMap bkL = X := ⟨_, rfl⟩
      rw [hXX] at HR lR
      have HXX := Lib.hid hXX
      clear hXX
      go_upto_region 10 with fail
      have B6 : Blk (wr.alloc (.cells #[.int .i64 x.id, .string x.nm] 101)) wr.heap.size 101 #[.int .i64 x.id, .string x.nm] := Blk.new_ wr 101 #[.int .i64 x.id, .string x.nm]
      have HU := HR.alloc (Nat.le_trans hb3 HT.be.size) (.cells #[.int .i64 x.id, .string x.nm] 101)
      have hbu : w.heap.size ≤ (wr.alloc (.cells #[.int .i64 x.id, .string x.nm] 101)).heap.size := by simp; omega
      obtain ⟨wu, hwu⟩ : ∃ V : World, V = wr.alloc (.cells #[.int .i64 x.id, .string x.nm] 101) := ⟨_, rfl⟩
      obtain ⟨g6, hg6⟩ : ∃ g, wr.heap.size = g := ⟨_, rfl⟩
      change Code.wp _ _ _ _ (wr.alloc (.cells #[.int .i64 x.id, .string x.nm] 101))
      rw [hg6] at B6 ⊢
      rw [← hwu] at B6 HU hbu ⊢
      clear hwu hg6 y0 y1
      have u0 := B6.cell_ 0
      have u1 := B6.cell_ 1
      simp at u0 u1
      go_wp2_with (first | (go_at_call 120; ((with_reducible refine (bapp3 x.id w.heap.size _ XX _ HU.row hbu (by omega) hxs.1 (by omega)).mono ?_); rintro e' w8 ⟨v1, rfl, HN⟩; have HV := HU.step HN; have B6 := B6.keepU HN.kp (by decide); have hbv := Nat.le_trans hbu HN.be.size; have lV : (XX ++ iL x.id 3).length ≤ 400 := (by rw [List.length_append, iL_len]; omega); (clear u0 u1); have u0 := B6.cell_ 0; have u1 := B6.cell_ 1; simp at u0 u1; clear HN)) | (go_at_call 121; ((with_reducible refine (lnameT x.nm w.heap.size _ (XX ++ iL x.id 3) _ HV.row hbv (by omega) (by omega)).mono ?_); rintro e' w9 ⟨v1, rfl, HN⟩; skip)))
      go_roundw
      case rel => exact ⟨k + 1, by omega, by go_num, by rw [HFT.out, ← List.append_assoc, HXX.out]; exact (by have h := HV.step HN; rw [List.append_assoc] at h; exact h)⟩
      case measure => simp [intOf]; omega
    · obtain rfl : L = k := by omega
      rw [List.take_of_length_le (by have := HL.out; omega)] at HR lR
      clear hlt
      have HTn := HT.step HR
      have B1 := B1r
      have HT := HTn
      obtain ⟨X5, hX5⟩ : ∃ X, X4 ++ s.bs.flatMap bkL = X := ⟨_, rfl⟩
      rw [hX5] at HT lR
      have lX5 := lR
      have HX5 := Lib.hid hX5
      have k4 := B1.cell_ 4
      simp at k4
      clear hX5 HTn B1r HR lR hbr hbw
      go_upto_region 14 with (at_builtin; refine wpList_app _ rfl (.tmp 46) (.tmp 51) _ rfl w.heap.size 5 i0 _ 1 1 Tryz.underlying128 hi hz0 hz1 hz2 rfl (by decide) _ _ _ rfl (World.ownsRow.alloc HT.row _) _ 1 _ [byteV M] rfl (Rd.one (by simp [byteV])) (by simp [byteV, Value.oneCell']) (by unfold maxLen; omega) (by omega) (by have := HT.be.size; simp; omega) ?_; intro v13 w13 ho2 hg2 hv2)
      have HN : ByT w.heap.size wr w13 v13 (X5 ++ [M]) := ⟨ByR.put ho2 rfl rfl, ((Below.refl w.heap.size wr).alloc (Nat.le_trans hb3 HT.be.size) _).trans (below_app (Nat.le_refl _) (by have := HT.be.size; simp; omega) (World.ownsRow.alloc HT.row _) hg2), (KeepU.alloc_ _ _).trans (KeepU.of_grown (World.ownsRow.alloc HT.row _) hg2)⟩
      clear ho2 hg2 hv2
      have HT := HT.step HN; have B1 := B1.keepU HN.kp (by decide); obtain ⟨X6, hX6⟩ : ∃ X, X5 ++ ([M]) = X := ⟨_, rfl⟩; rw [hX6] at HT; have lX6 : X6.length ≤ 300 := (by rw [← hX6, List.length_append, List.length_singleton]; omega); have HX6 := Lib.hid hX6; clear hX6 HN
      clear k4
      have k4 := B1.cell_ 4
      simp at k4
      obtain ⟨wm, hwm⟩ : ∃ V : World, V = w13 := ⟨_, rfl⟩
      subst hwm
      go_wp2_with fail
      go_loopw [4, 56] (fun sv iv wr => ∃ k : Nat, k ≤ M ∧ iv = .int .i64 (k : Int) ∧ ByT w.heap.size wm wr sv (X6 ++ (s.ts.take k).flatMap ntL)) (fun _ iv _ => M - (intOf iv).toNat)
      case atStart => exact ⟨0, Nat.zero_le _, rfl, by simpa using ByT.start HT.row⟩
      case round =>
        obtain ⟨k, hk, rfl, HR⟩ := hrel
        have B1r := B1.keepU HR.kp (by decide)
        have hbr : w.heap.size ≤ wr.heap.size := Nat.le_trans (Nat.le_trans hb3 HT.be.size) HR.be.size
        have hbw : Below w.heap.size w wr := (HB3.trans HT.be).trans HR.be
        clear k4
        have lR : (X6 ++ (s.ts.take k).flatMap ntL).length ≤ 3000 := by
          have h1 := fm_len ntL 200 (s.ts.take k) (fun x hx => ntL_len (HF.out.nts (List.mem_of_mem_take hx)))
          rw [List.length_append]
          rw [List.length_take] at h1
          have h2 : 200 * min k s.ts.length ≤ 200 * M := Nat.mul_le_mul_left _ (by omega)
          omega
        by_cases hlt : k < M
        · have hkx : k < s.ts.length := by have := HMM.out; omega
          obtain ⟨x, hx⟩ : ∃ x, s.ts[k]? = some x := ⟨_, List.getElem?_eq_getElem hkx⟩
          obtain ⟨e0, he⟩ : ∃ e, es[k]? = some e := ⟨_, List.getElem?_eq_getElem (by omega)⟩
          obtain ⟨At, ct, As, cs, rfl, hAt, hAs, -⟩ := (hnt k x e0 hx he).ex
          obtain ⟨b9, o9, rfl, l9, q9⟩ := hse.at_ (by omega)
          have y0 : wr.cell? ⟨b9, o9 + k * 5, none⟩ = some (.int .i64 x.id) := (hbw.cell (p := ⟨b9, _, none⟩) l9).trans (q9 k _ he 0 _ rfl)
          have y1 : wr.cell? ⟨b9, o9 + k * 5 + 1, none⟩ = some (.int .i64 x.bk) := (hbw.cell (p := ⟨b9, _, none⟩) l9).trans (q9 k _ he 1 _ rfl)
          have y2 : wr.cell? ⟨b9, o9 + k * 5 + 2, none⟩ = some (.string x.nm) := (hbw.cell (p := ⟨b9, _, none⟩) l9).trans (q9 k _ he 2 _ rfl)
          have y3 : wr.cell? ⟨b9, o9 + k * 5 + 3, none⟩ = some (.slice At x.tg.length ct) := (hbw.cell (p := ⟨b9, _, none⟩) l9).trans (q9 k _ he 3 _ rfl)
          have y4 : wr.cell? ⟨b9, o9 + k * 5 + 4, none⟩ = some (.slice As x.sh.length cs) := (hbw.cell (p := ⟨b9, _, none⟩) l9).trans (q9 k _ he 4 _ rfl)
          clear he
          have HXS := Lib.hid (HF.out.nts (List.mem_of_getElem? hx))
          have hAt2 : Sl wr w.heap.size At (x.tg.map strV) := hAt.below hbw
          have hAs2 : Sl wr w.heap.size As (x.sh.map (Value.int .i64)) := hAs.below hbw
          have hft := fm_take ntL hx
          have HFT := Lib.hid hft
          have j0 : (0 : Int) ≤ (k : Int) := by omega
          have j1 : (k : Int) < (M : Int) := by omega
          have HXM := Lib.hid (List.mem_of_getElem? hx)
          clear hft hx q9 hkx
          obtain ⟨XX, hXX⟩ : ∃ X, X6 ++ (s.ts.take k).flatMap ntL = X := ⟨_, rfl⟩
          rw [hXX] at HR lR
          have HXX := Lib.hid hXX
          clear hXX
          go_upto_region 17 with fail
          have B6 : Blk (wr.alloc (.cells #[.int .i64 x.id, .int .i64 x.bk, .string x.nm, .slice At x.tg.length ct, .slice As x.sh.length cs] 83)) wr.heap.size 83 #[.int .i64 x.id, .int .i64 x.bk, .string x.nm, .slice At x.tg.length ct, .slice As x.sh.length cs] := Blk.new_ wr 83 #[.int .i64 x.id, .int .i64 x.bk, .string x.nm, .slice At x.tg.length ct, .slice As x.sh.length cs]
          have HU := HR.alloc (Nat.le_trans hb3 HT.be.size) (.cells #[.int .i64 x.id, .int .i64 x.bk, .string x.nm, .slice At x.tg.length ct, .slice As x.sh.length cs] 83)
          have hbu : w.heap.size ≤ (wr.alloc (.cells #[.int .i64 x.id, .int .i64 x.bk, .string x.nm, .slice At x.tg.length ct, .slice As x.sh.length cs] 83)).heap.size := by simp; omega
          obtain ⟨wu, hwu⟩ : ∃ V : World, V = wr.alloc (.cells #[.int .i64 x.id, .int .i64 x.bk, .string x.nm, .slice At x.tg.length ct, .slice As x.sh.length cs] 83) := ⟨_, rfl⟩
          obtain ⟨g6, hg6⟩ : ∃ g, wr.heap.size = g := ⟨_, rfl⟩
          change Code.wp _ _ _ _ (wr.alloc (.cells #[.int .i64 x.id, .int .i64 x.bk, .string x.nm, .slice At x.tg.length ct, .slice As x.sh.length cs] 83))
          have hal0 : Below w.heap.size wr (wr.alloc (.cells #[.int .i64 x.id, .int .i64 x.bk, .string x.nm, .slice At x.tg.length ct, .slice As x.sh.length cs] 83)) := (Below.refl _ _).alloc hbr _
          rw [hg6] at B6 ⊢
          rw [← hwu] at B6 HU hbu hal0 ⊢
          clear hwu hg6 y0 y1 y2 y3 y4
          have hal := hal0
          have u0 := B6.cell_ 0
          have u1 := B6.cell_ 1
          have u2 := B6.cell_ 2
          have u3 := B6.cell_ 3
          have u4 := B6.cell_ 4
          simp at u0 u1 u2 u3 u4
          go_wp2_with (go_at_call 122; ((with_reducible refine (lnoteT x At As ct cs w.heap.size _ XX _ HU.row hbu (by omega) HXS.out (hAt2.below hal) (hAs2.below hal)).mono ?_); rintro e' w9 ⟨v1, rfl, HN⟩; skip))
          go_roundw
          case rel => exact ⟨k + 1, by omega, by go_num, by rw [HFT.out, ← List.append_assoc, HXX.out]; exact HU.step HN⟩
          case measure => simp [intOf]; omega
        · obtain rfl : M = k := by omega
          rw [List.take_of_length_le (by have := HMM.out; omega)] at HR lR
          clear hlt
          have HTn := HT.step HR
          obtain ⟨X7, hX7⟩ : ∃ X, X6 ++ s.ts.flatMap ntL = X := ⟨_, rfl⟩
          rw [hX7] at HTn
          go_wp2_with fail
          go_ret2
          refine ⟨_, rfl, ?_, hbw⟩
          have e : shL s = X7 := by
            unfold shL
            rw [← hX7, ← HX6.out, ← HX5.out, ← HX4.out, ← HX3.out, ← HX2.out, ← HX1.out, ← HX0.out, HL.out, HMM.out]
            simp [List.append_assoc]
          rw [e]
          exact HTn.row
theorem size_any (s : Sf) (v : Value) (w : World) (hS : ShR w w.heap.size v s) (hT : Tabs w) (N : Nat) (hN0 : (cond (mayS s) (shL s) []).length = N) :
    Calls Tryz.prog 40 #[v] w fun e' w' => e' = .returned (.int .i64 (N : Int)) ∧ Below w.heap.size w w' := by
  obtain ⟨M, hM⟩ : ∃ M, mayS s = M := ⟨_, rfl⟩
  rw [hM] at hN0
  have hS0 := hS
  obtain ⟨Ab, cb, An, cn, rfl, hB, hN, hcb, hmb, hcn, hmn⟩ := hS.ex
  clear hS
  have HB : Below w.heap.size w (w.alloc (.cells #[.int .i64 s.nb, .int .i64 s.nn, .int .i64 s.ns, .slice Ab s.bs.length cb, .slice An s.ts.length cn] 41)) := ((Below.refl w.heap.size w).alloc (Nat.le_refl _) _)
  have B1 : Blk (w.alloc (.cells #[.int .i64 s.nb, .int .i64 s.nn, .int .i64 s.ns, .slice Ab s.bs.length cb, .slice An s.ts.length cn] 41)) w.heap.size 41 #[.int .i64 s.nb, .int .i64 s.nn, .int .i64 s.ns, .slice Ab s.bs.length cb, .slice An s.ts.length cn] := Blk.new_ w 41 #[.int .i64 s.nb, .int .i64 s.nn, .int .i64 s.ns, .slice Ab s.bs.length cb, .slice An s.ts.length cn]
  have S1 : ShR (w.alloc (.cells #[.int .i64 s.nb, .int .i64 s.nn, .int .i64 s.ns, .slice Ab s.bs.length cb, .slice An s.ts.length cn] 41)) ((w.alloc (.cells #[.int .i64 s.nb, .int .i64 s.nn, .int .i64 s.ns, .slice Ab s.bs.length cb, .slice An s.ts.length cn] 41))).heap.size (.agg #[.int .i64 s.nb, .int .i64 s.nn, .int .i64 s.ns, .slice Ab s.bs.length cb, .slice An s.ts.length cn]) s := hS0.next HB
  have T1 := hT.next HB
  cases M
  · have HM := Lib.hid hM
    have hn : N = 0 := hN0.symm
    subst hn
    clear hM hN0 hS0 hT hB hN hcb hmb hcn hmn
    go_enter Tryz.func40, Tryz.ntmps40
    go_wp2_with (go_at_call 81; ((with_reducible refine (lay_no s _ _ S1 T1 HM.out).mono ?_); rintro e' w3 ⟨rfl, bx⟩; have HB := btr HB HB.size bx))
    go_ret
    exact ⟨rfl, HB⟩
  · have HF := Lib.hid (mayF_of hM)
    have HN := Lib.hid hN0
    clear hM hN0 hS0 hT hB hN hcb hmb hcn hmn
    go_enter Tryz.func40, Tryz.ntmps40
    go_wp2_with (go_at_call 81; ((with_reducible refine (lay_yes s _ _ S1 T1 HF.out).mono ?_); rintro e' w3 ⟨v1, rfl, hr, bx⟩; (obtain ⟨A, c, rfl, -, -⟩ := own_shape hr); rw [show (shL s).length = N from HN.out]; have HB := btr HB HB.size bx; clear hr))
    go_ret
    exact ⟨rfl, HB⟩
end Go.Proofs.YtnpinkbbkhllaaaGreatDoor
namespace Go.Proofs.YtnpinkbbkhllaaaGreatDoor
def partsI (s e : Int) : Int := max 1 ((s + e - 1) / e)
def sumP (c : Int) : List Int → Int
  | [] => 0
  | s :: l => partsI s c + sumP c l
def idxI (c : Int) (ns : List Int) : Int := partsI (2 + 4 * (ns.length : Int) + 2 * sumP c ns) (c - 2)
def needI (c : Int) (ns : List Int) : Int := sumP c ns + idxI c ns
theorem parts_pos (s e : Int) : 1 ≤ partsI s e := by unfold partsI; omega
theorem parts_bd {s e : Int} (he : 1 ≤ e) (hs : 0 ≤ s) : partsI s e ≤ s + 1 := by
  unfold partsI
  have : (s + e - 1) / e ≤ s + 1 := by
    have h1 : (s + e - 1) / e < s + 1 + 1 := Int.ediv_lt_of_lt_mul (by omega) (by
      have : (s + 1 + 1) * e = s * e + 2 * e := by rw [Int.add_mul, Int.add_mul]; omega
      have h2 : s ≤ s * e := by
        have := Int.mul_le_mul_of_nonneg_left he hs
        omega
      omega)
    omega
  omega
theorem sumP_append (c : Int) : ∀ (a b : List Int), sumP c (a ++ b) = sumP c a + sumP c b
  | [], b => by simp [sumP]
  | s :: a, b => by
    have := sumP_append c a b
    simp only [List.cons_append, sumP]
    omega
theorem sumP_bd (c : Int) (hc : 1 ≤ c) : ∀ a : List Int, (∀ z ∈ a, 0 ≤ z ∧ z ≤ 1048576) → (a.length : Int) ≤ sumP c a ∧ sumP c a ≤ 1048577 * (a.length : Int)
  | [], _ => by simp [sumP]
  | s :: a, h => by
    have h1 := sumP_bd c hc a fun z hz => h z (List.mem_cons_of_mem _ hz)
    have h2 := h s List.mem_cons_self
    have h3 := parts_pos s c
    have h4 := parts_bd hc h2.1
    simp only [sumP, List.length_cons]
    omega
theorem sumP_take (c : Int) (a : List Int) (k : Nat) (hk : k < a.length) : sumP c (a.take (k + 1)) = sumP c (a.take k) + partsI (a.getD k 0) c := by
  rw [List.take_succ_eq_append_getElem hk, sumP_append, List.getD_eq_getElem?_getD, List.getElem?_eq_getElem hk]
  simp [sumP]
def padN (n : Nat) (l : List Nat) : List Nat := l ++ List.replicate (n - l.length) 0
def partB (n : Nat) (bs : List Nat) (i : Nat) : List Nat := padN n ((bs.drop (i * n)).take n)
def cutB (n : Nat) (bs : List Nat) (m : Nat) : List (List Nat) := (List.range m).map (partB n bs)
end Go.Proofs.YtnpinkbbkhllaaaGreatDoor
namespace Go.Proofs.YtnpinkbbkhllaaaGreatDoor
open Go.ChangeShapes Go.WideShapes Go.ChangeAt Go.RowKit
def withinB (x lo hi : Int) : Bool := decide (lo ≤ x) && decide (x ≤ hi)
theorem gwithin_any (x lo hi : Int) (w : World) :
    Calls Tryz.prog 90 #[.int .i64 x, .int .i64 lo, .int .i64 hi] w fun e w' => e = .returned (.bool (withinB x lo hi)) ∧ w = w' := by
  unfold withinB
  by_cases h1 : lo ≤ x <;> by_cases h2 : x ≤ hi
  all_goals
    go_enter Tryz.func90, Tryz.ntmps90
    go_wp2
    go_ret
    exact ⟨by simp [h1, h2], rfl⟩
end Go.Proofs.YtnpinkbbkhllaaaGreatDoor
namespace Go.Proofs.YtnpinkbbkhllaaaGreatDoor
open Go.ChangeShapes Go.WideShapes Go.ChangeAt Go.RowKit
def logicalI (a b d : Int) : Int := ((a - d - 3) * b - 4) / 2
def mayB (a b c d e : Int) : Bool :=
  withinB a 8 20 && (withinB b 4 8 && (withinB c 24 64 && (withinB d 0 4 && (withinB e 2 20 && decide (4 ≤ logicalI a b d)))))
theorem within_bd {x lo hi : Int} (h : withinB x lo hi = true) : lo ≤ x ∧ x ≤ hi := by
  simpa [withinB] using h
theorem may_bd {a b c d e : Int} (h : mayB a b c d e = true) :
    8 ≤ a ∧ a ≤ 20 ∧ 4 ≤ b ∧ b ≤ 8 ∧ 24 ≤ c ∧ c ≤ 64 ∧ 0 ≤ d ∧ d ≤ 4 ∧ 2 ≤ e ∧ e ≤ 20 ∧ 4 ≤ logicalI a b d := by
  simp only [mayB, withinB, Bool.and_eq_true, decide_eq_true_eq] at h
  omega
theorem prod_bd {x b : Int} (h1 : 1 ≤ x) (h2 : x ≤ 17) (h3 : 4 ≤ b) (h4 : b ≤ 8) : 4 ≤ x * b ∧ x * b ≤ 136 := by
  have h5 : x * b ≤ 17 * b := Int.mul_le_mul_of_nonneg_right h2 (by omega)
  have h6 : 1 * b ≤ x * b := Int.mul_le_mul_of_nonneg_right h1 (by omega)
  omega
theorem logical_any (a b c d e : Int) (w : World) (h1 : 8 ≤ a) (h2 : a ≤ 20) (h3 : 4 ≤ b) (h4 : b ≤ 8) (h5 : 0 ≤ d) (h6 : d ≤ 4) :
    Calls Tryz.prog 91 #[.agg #[.int .i64 a, .int .i64 b, .int .i64 c, .int .i64 d, .int .i64 e]] w fun e' w' => e' = .returned (.int .i64 (logicalI a b d)) ∧ Below w.heap.size w w' := by
  obtain ⟨p1, p2⟩ := prod_bd (x := a - d - 3) (b := b) (by omega) (by omega) h3 h4
  have h0 : 0 ≤ (a - d - 3) * b - 4 := by omega
  go_enter Tryz.func91, Tryz.ntmps91
  go_wp2
  go_ret
  exact ⟨rfl, (Below.refl _ _).alloc (Nat.le_refl _) _⟩
theorem gmay9_any (a b c d e : Int) (w : World) :
    Calls Tryz.prog 47 #[.agg #[.int .i64 a, .int .i64 b, .int .i64 c, .int .i64 d, .int .i64 e]] w fun e' w' => e' = .returned (.bool (mayB a b c d e)) ∧ Below w.heap.size w w' := by
  go_enter Tryz.func47, Tryz.ntmps47
  go_wp2_with (go_at_call 90; refine (gwithin_any _ _ _ _).mono ?_; rintro e w' ⟨rfl, rfl⟩)
  case isTrue =>
    have g1 : withinB a 8 20 = true := by assumption
    have g2 : withinB b 4 8 = true := by assumption
    have g3 : withinB c 24 64 = true := by assumption
    have g4 : withinB d 0 4 = true := by assumption
    have g5 : withinB e 2 20 = true := by assumption
    refine (logical_any _ _ _ _ _ _ (within_bd g1).1 (within_bd g1).2 (within_bd g2).1 (within_bd g2).2 (within_bd g4).1 (within_bd g4).2).mono ?_
    rintro e' w' ⟨rfl, hb⟩
    go_wp2
    go_ret
    refine ⟨?_, ((Below.refl _ _).alloc (Nat.le_refl _) _).trans (hb.mono (by simp))⟩
    simp [mayB, *]
  all_goals
    go_ret
    exact ⟨by simp [mayB, *], (Below.refl _ _).alloc (Nat.le_refl _) _⟩
end Go.Proofs.YtnpinkbbkhllaaaGreatDoor
namespace Go.Proofs.YtnpinkbbkhllaaaGreatDoor
open Go.ChangeShapes Go.WideShapes Go.ChangeAt Go.RowKit
end Go.Proofs.YtnpinkbbkhllaaaGreatDoor
namespace Go.Proofs.YtnpinkbbkhllaaaGreatDoor
open Go.ChangeShapes Go.WideShapes Go.ChangeAt Go.RowKit Go.Deep
def SlA (w : World) (A : Option Addr) (n c : Nat) (vs : List Value) : Prop := n = vs.length ∧ Sl w w.heap.size A vs ∧ n ≤ c ∧ c ≤ maxLen ∧ (A = none → n = 0 ∧ c = 0)
section
variable {H : Type} {enc : TypeId × Value → H} {P : Program} {w : World} {base : Nat} {spare : Nat → Bool} {held : Bool}
end
end Go.Proofs.YtnpinkbbkhllaaaGreatDoor
namespace Go.Proofs.YtnpinkbbkhllaaaGreatDoor
open Go.ChangeShapes Go.WideShapes Go.ChangeAt Go.RowKit
theorem gmay_yes (a b c d e : Int) (w : World) (hm : Hid (mayB a b c d e = true)) :
    Calls Tryz.prog 47 #[.agg #[.int .i64 a, .int .i64 b, .int .i64 c, .int .i64 d, .int .i64 e]] w fun e' w' => e' = .returned (.bool true) ∧ Below w.heap.size w w' := by
  have q := gmay9_any a b c d e w
  rwa [hm.out] at q
theorem emay_yes (a b c d e : Int) (z : Int) (w : World) (hm : Hid (mayB a b c d e = true)) (hz : 0 ≤ z) (hz2 : z ≤ 1048576) :
    Calls Tryz.prog 125 #[.agg #[.int .i64 a, .int .i64 b, .int .i64 c, .int .i64 d, .int .i64 e], .int .i64 z] w fun e' w' => e' = .returned (.bool true) ∧ Below w.heap.size w w' := by
  have HB0 : Below w.heap.size w (w.alloc (.cells #[.int .i64 a, .int .i64 b, .int .i64 c, .int .i64 d, .int .i64 e] 48)) := (Below.refl _ _).alloc (Nat.le_refl _) _
  have G1 : Blk (w.alloc (.cells #[.int .i64 a, .int .i64 b, .int .i64 c, .int .i64 d, .int .i64 e] 48)) w.heap.size 48 #[.int .i64 a, .int .i64 b, .int .i64 c, .int .i64 d, .int .i64 e] := Blk.new_ _ _ _
  go_enter Tryz.func125, Tryz.ntmps125
  go_wp2_with (go_at_call 47; ((with_reducible refine (gmay_yes _ _ _ _ _ _ hm).mono ?_); rintro e' wN ⟨rfl, hb⟩; have HB0 := btr HB0 HB0.size hb; have G1 := G1.below hb G1.lt; (try clear y0 y1 y2 y3 y4); have y0 := G1.cell_ 0; have y1 := G1.cell_ 1; have y2 := G1.cell_ 2; have y3 := G1.cell_ 3; have y4 := G1.cell_ 4; simp at y0 y1 y2 y3 y4; clear hb))
  go_ret
  exact ⟨rfl, HB0⟩
theorem eparts_any (s e : Int) (w : World) (hs : 0 ≤ s) (hs2 : s ≤ 1000000000) (he : 1 ≤ e) (he2 : e ≤ 1000) (P : Int) (hP : partsI s e = P) :
    Calls Tryz.prog 127 #[.int .i64 s, .int .i64 e] w fun e' w' => e' = .returned (.int .i64 P) ∧ w = w' := by
  have h1 : (s + e - 1).tdiv e = (s + e - 1) / e := Int.tdiv_eq_ediv_of_nonneg (by omega)
  have h2 : 0 ≤ (s + e - 1) / e := Int.ediv_nonneg (by omega) (by omega)
  have h3 : (s + e - 1) / e ≤ s + e - 1 := Int.ediv_le_self _ (by omega)
  unfold partsI at hP
  obtain ⟨q, hq⟩ : ∃ q, (s + e - 1) / e = q := ⟨_, rfl⟩
  rw [hq] at h1 h2 h3 hP
  have h4 : ¬ e = 0 := by omega
  clear hq
  go_enter Tryz.func127, Tryz.ntmps127
  go_wp2
  all_goals
    go_ret
    exact ⟨congrArg (fun z => Ending.returned (Value.int .i64 z)) (by omega), rfl⟩
theorem pages_any (a b c d e : Int) (z : Int) (P : Int) (w : World) (hm : Hid (mayB a b c d e = true)) (hz : 0 ≤ z) (hz2 : z ≤ 1048576) (hP : partsI z c = P) :
    Calls Tryz.prog 126 #[.agg #[.int .i64 a, .int .i64 b, .int .i64 c, .int .i64 d, .int .i64 e], .int .i64 z] w fun e' w' => e' = .returned (.int .i64 P) ∧ Below w.heap.size w w' := by
  have hbd := may_bd hm.out
  have c1 : 24 ≤ c := hbd.2.2.2.2.1
  have c2 : c ≤ 64 := hbd.2.2.2.2.2.1
  clear hbd
  have HP := Lib.hid hP
  clear hP
  have HB0 : Below w.heap.size w (w.alloc (.cells #[.int .i64 a, .int .i64 b, .int .i64 c, .int .i64 d, .int .i64 e] 48)) := (Below.refl _ _).alloc (Nat.le_refl _) _
  have G1 : Blk (w.alloc (.cells #[.int .i64 a, .int .i64 b, .int .i64 c, .int .i64 d, .int .i64 e] 48)) w.heap.size 48 #[.int .i64 a, .int .i64 b, .int .i64 c, .int .i64 d, .int .i64 e] := Blk.new_ _ _ _
  go_enter Tryz.func126, Tryz.ntmps126
  go_wp2_with (first
    | (go_at_call 125; ((with_reducible refine (emay_yes _ _ _ _ _ _ _ hm (by omega) (by omega)).mono ?_); rintro e' wN ⟨rfl, hb⟩; have HB0 := btr HB0 HB0.size hb; have G1 := G1.below hb G1.lt; (try clear y0 y1 y2 y3 y4); have y0 := G1.cell_ 0; have y1 := G1.cell_ 1; have y2 := G1.cell_ 2; have y3 := G1.cell_ 3; have y4 := G1.cell_ 4; simp at y0 y1 y2 y3 y4; clear hb))
    | (go_at_call 127; ((with_reducible refine (eparts_any _ _ _ (by omega) (by omega) (by omega) (by omega) _ HP.out).mono ?_); rintro e' wN ⟨rfl, rfl⟩; skip)))
  go_ret
  exact ⟨rfl, HB0⟩
theorem eindex_any (a b c d e : Int) (n p : Int) (P : Int) (w : World) (hm : Hid (mayB a b c d e = true)) (hn : 0 ≤ n) (hn2 : n ≤ 1000) (hp : 0 ≤ p) (hp2 : p ≤ 400000000) (hP : partsI (2 + 4 * n + 2 * p) (c - 2) = P) :
    Calls Tryz.prog 84 #[.agg #[.int .i64 a, .int .i64 b, .int .i64 c, .int .i64 d, .int .i64 e], .int .i64 n, .int .i64 p] w fun e' w' => e' = .returned (.int .i64 P) ∧ Below w.heap.size w w' := by
  have hbd := may_bd hm.out
  have c1 : 24 ≤ c := hbd.2.2.2.2.1
  have c2 : c ≤ 64 := hbd.2.2.2.2.2.1
  clear hbd
  have HP := Lib.hid hP
  clear hP
  have HB0 : Below w.heap.size w (w.alloc (.cells #[.int .i64 a, .int .i64 b, .int .i64 c, .int .i64 d, .int .i64 e] 48)) := (Below.refl _ _).alloc (Nat.le_refl _) _
  have G1 : Blk (w.alloc (.cells #[.int .i64 a, .int .i64 b, .int .i64 c, .int .i64 d, .int .i64 e] 48)) w.heap.size 48 #[.int .i64 a, .int .i64 b, .int .i64 c, .int .i64 d, .int .i64 e] := Blk.new_ _ _ _
  go_enter Tryz.func84, Tryz.ntmps84
  go_wp2_with (go_at_call 127; ((with_reducible refine (eparts_any _ _ _ (by omega) (by omega) (by omega) (by omega) _ HP.out).mono ?_); rintro e' wN ⟨rfl, rfl⟩; skip))
  go_ret
  exact ⟨rfl, HB0⟩
theorem ecount_any (a b c d e : Int) (ns : List Int) (n : Nat) (P : Int) (A : Option Addr) (k : Nat) (w : World) (hm : Hid (mayB a b c d e = true)) (hl : ns.length = n) (hn : n ≤ 100) (hb : ∀ z ∈ ns, 0 ≤ z ∧ z ≤ 1048576) (h1 : Sl w w.heap.size A (ns.map (Value.int .i64))) (hP : sumP c ns = P) :
    Calls Tryz.prog 83 #[.agg #[.int .i64 a, .int .i64 b, .int .i64 c, .int .i64 d, .int .i64 e], .slice A n k] w fun e' w' => e' = .returned (.tuple #[.int .i64 P, .bool true]) ∧ Below w.heap.size w w' := by
  have hbd := may_bd hm.out
  have c1 : 24 ≤ c := hbd.2.2.2.2.1
  clear hbd
  have HL := Lib.hid hl
  have HBD := Lib.hid hb
  have HP := Lib.hid hP
  clear hP hl hb
  have HB0 : Below w.heap.size w (w.alloc (.cells #[.int .i64 a, .int .i64 b, .int .i64 c, .int .i64 d, .int .i64 e] 48)) := (Below.refl _ _).alloc (Nat.le_refl _) _
  have G1 : Blk (w.alloc (.cells #[.int .i64 a, .int .i64 b, .int .i64 c, .int .i64 d, .int .i64 e] 48)) w.heap.size 48 #[.int .i64 a, .int .i64 b, .int .i64 c, .int .i64 d, .int .i64 e] := Blk.new_ _ _ _
  have H1 := h1.next HB0
  clear h1
  go_enter Tryz.func83, Tryz.ntmps83
  go_wp2_with fail
  go_loopw [6, 11] (fun s i wr => ∃ j : Nat, j ≤ n ∧ i = .int .i64 j ∧ s = .int .i64 (sumP c (ns.take j)) ∧ Below w.heap.size w wr ∧ Blk wr w.heap.size 48 #[.int .i64 a, .int .i64 b, .int .i64 c, .int .i64 d, .int .i64 e] ∧ Sl wr wr.heap.size A (ns.map (Value.int .i64))) (fun _ i _ => n - (intOf i).toNat)
  case atStart => exact ⟨0, Nat.zero_le _, rfl, rfl, HB0, G1, H1⟩
  case round =>
    obtain ⟨j, hj, rfl, rfl, HBr, Gr, Hr⟩ := hrel
    clear HB0 G1 H1
    have HB0 := HBr
    have G1 := Gr
    have H1 := Hr
    clear HBr Gr Hr
    have y0 := G1.cell_ 0
    have y1 := G1.cell_ 1
    have y2 := G1.cell_ 2
    have y3 := G1.cell_ 3
    have y4 := G1.cell_ 4
    simp at y0 y1 y2 y3 y4
    have hs := sumP_bd c (by omega) (ns.take j) (fun z hz => HBD.out z (List.mem_of_mem_take hz))
    have hlt2 : (ns.take j).length ≤ 100 := by rw [List.length_take, HL.out]; omega
    obtain ⟨S, hS⟩ : ∃ S, sumP c (ns.take j) = S := ⟨_, rfl⟩
    have HS := Lib.hid hS
    rw [hS] at hs ⊢
    have s1 : 0 ≤ S := by omega
    have s2 : S ≤ 200000000 := by omega
    clear hS hs hlt2
    by_cases hlt : j < n
    · have hlx : j < ns.length := by have := HL.out; omega
      obtain ⟨b1, o1, rfl, l1, q1⟩ := H1.at_ (by rw [List.length_map]; omega)
      obtain ⟨z, hz⟩ : ∃ z, ns.getD j 0 = z := ⟨_, rfl⟩
      have hzm : z ∈ ns := by
        rw [← hz, List.getD_eq_getElem?_getD, List.getElem?_eq_getElem hlx]
        exact List.getElem_mem hlx
      have hzb := HBD.out z hzm
      have z1 := hzb.1
      have z2 := hzb.2
      have cz : wr.cell? ⟨b1, o1 + j, none⟩ = some (.int .i64 z) := q1 j _ (by
        rw [List.getElem?_map, List.getElem?_eq_getElem hlx, ← hz, List.getD_eq_getElem?_getD, List.getElem?_eq_getElem hlx]
        rfl)
      have hst := sumP_take c ns j hlx
      rw [hz, HS.out] at hst
      obtain ⟨Q, hQ⟩ : ∃ Q, partsI z c = Q := ⟨_, rfl⟩
      rw [hQ] at hst
      have HQ := Lib.hid hQ
      have Q1 : Q ≤ 1048577 := by rw [← hQ]; have := parts_bd (s := z) (e := c) (by omega) z1; omega
      have Q0 : 1 ≤ Q := by rw [← hQ]; exact parts_pos z c
      have HST := Lib.hid hst
      have i0 : (0 : Int) ≤ (j : Int) := by omega
      have i1 : (j : Int) < (n : Int) := by omega
      clear q1 hz hst hQ hzb hzm hlx
      go_wp2_with (first
        | (go_at_call 125; ((with_reducible refine (emay_yes _ _ _ _ _ _ _ hm (by omega) (by omega)).mono ?_); rintro e' wN ⟨rfl, hb⟩; have H1 := H1.next hb; have HB0 := btr HB0 HB0.size hb; have G1 := G1.below hb G1.lt; (try clear y0 y1 y2 y3 y4); have y0 := G1.cell_ 0; have y1 := G1.cell_ 1; have y2 := G1.cell_ 2; have y3 := G1.cell_ 3; have y4 := G1.cell_ 4; simp at y0 y1 y2 y3 y4; clear hb))
        | (go_at_call 126; ((with_reducible refine (pages_any _ _ _ _ _ _ Q _ hm (by omega) (by omega) HQ.out).mono ?_); rintro e' wN ⟨rfl, hb⟩; have H1 := H1.next hb; have HB0 := btr HB0 HB0.size hb; have G1 := G1.below hb G1.lt; (try clear y0 y1 y2 y3 y4); have y0 := G1.cell_ 0; have y1 := G1.cell_ 1; have y2 := G1.cell_ 2; have y3 := G1.cell_ 3; have y4 := G1.cell_ 4; simp at y0 y1 y2 y3 y4; clear hb)))
      go_roundw
      case rel => exact ⟨j + 1, by omega, by go_num, by rw [HST.out], HB0, G1, H1⟩
      case measure => simp [intOf]; omega
    · have hjn : j = n := by omega
      have hSP : S = P := by
        rw [← HS.out, ← HP.out, List.take_of_length_le (by rw [HL.out]; omega)]
      subst hSP
      clear hlt
      go_wp2_with (go_at_call 47; ((with_reducible refine (gmay_yes _ _ _ _ _ _ hm).mono ?_); rintro e' wN ⟨rfl, hb⟩; have H1 := H1.next hb; have HB0 := btr HB0 HB0.size hb; have G1 := G1.below hb G1.lt; (try clear y0 y1 y2 y3 y4); have y0 := G1.cell_ 0; have y1 := G1.cell_ 1; have y2 := G1.cell_ 2; have y3 := G1.cell_ 3; have y4 := G1.cell_ 4; simp at y0 y1 y2 y3 y4; clear hb))
      go_ret2
      exact ⟨rfl, HB0⟩
end Go.Proofs.YtnpinkbbkhllaaaGreatDoor
namespace Go.Proofs.YtnpinkbbkhllaaaGreatDoor
open Go.ChangeShapes Go.WideShapes Go.ChangeAt Go.RowKit
theorem eneed_any (a b c d e : Int) (ns : List Int) (n : Nat) (P : Int) (A : Option Addr) (k : Nat) (w : World) (hm : Hid (mayB a b c d e = true)) (hl : ns.length = n) (hn : n ≤ 100) (hb : ∀ z ∈ ns, 0 ≤ z ∧ z ≤ 1048576) (h1 : Sl w w.heap.size A (ns.map (Value.int .i64))) (hP : needI c ns = P) :
    Calls Tryz.prog 43 #[.agg #[.int .i64 a, .int .i64 b, .int .i64 c, .int .i64 d, .int .i64 e], .slice A n k] w fun e' w' => e' = .returned (.int .i64 P) ∧ Below w.heap.size w w' := by
  have hbd := may_bd hm.out
  have c1 : 24 ≤ c := hbd.2.2.2.2.1
  have c2 : c ≤ 64 := hbd.2.2.2.2.2.1
  clear hbd
  have hs := sumP_bd c (by omega) ns hb
  obtain ⟨S, hS⟩ : ∃ S, sumP c ns = S := ⟨_, rfl⟩
  obtain ⟨I, hI⟩ : ∃ S, idxI c ns = S := ⟨_, rfl⟩
  have hI2 : partsI (2 + 4 * (n : Int) + 2 * S) (c - 2) = I := by rw [← hI, ← hS, ← hl]; rfl
  have HI := Lib.hid hI2
  have I0 : 1 ≤ I := by rw [← hI]; exact parts_pos _ _
  rw [hS] at hs
  have s1 : 0 ≤ S := by omega
  have s2 : S ≤ 200000000 := by omega
  have I1 : I ≤ 400001000 := by rw [← hI2]; have := parts_bd (s := 2 + 4 * (n : Int) + 2 * S) (e := c - 2) (by omega) (by omega); omega
  have hp : S + I = P := by rw [← hP, ← hI]; unfold needI; rw [hS]
  have HSS := Lib.hid hS
  have HL := Lib.hid hl
  have HBD := Lib.hid hb
  have n0 : (0 : Int) ≤ (n : Int) := by omega
  have n1 : (n : Int) ≤ 100 := by omega
  subst hp
  clear hP hS hI hI2 hl hs hb
  have HB0 : Below w.heap.size w (w.alloc (.cells #[.int .i64 a, .int .i64 b, .int .i64 c, .int .i64 d, .int .i64 e] 48)) := (Below.refl _ _).alloc (Nat.le_refl _) _
  have G1 : Blk (w.alloc (.cells #[.int .i64 a, .int .i64 b, .int .i64 c, .int .i64 d, .int .i64 e] 48)) w.heap.size 48 #[.int .i64 a, .int .i64 b, .int .i64 c, .int .i64 d, .int .i64 e] := Blk.new_ _ _ _
  have H1 := h1.next HB0
  clear h1
  go_enter Tryz.func43, Tryz.ntmps43
  go_wp2_with (first
    | (go_at_call 83; ((with_reducible refine (ecount_any _ _ _ _ _ ns n S _ _ _ hm HL.out hn HBD.out H1 HSS.out).mono ?_); rintro e' wN ⟨rfl, hb⟩; have HB0 := btr HB0 HB0.size hb; have G1 := G1.below hb G1.lt; (try clear y0 y1 y2 y3 y4); have y0 := G1.cell_ 0; have y1 := G1.cell_ 1; have y2 := G1.cell_ 2; have y3 := G1.cell_ 3; have y4 := G1.cell_ 4; simp at y0 y1 y2 y3 y4; clear hb))
    | (go_at_call 84; ((with_reducible refine (eindex_any _ _ _ _ _ _ _ I _ hm (by omega) (by omega) (by omega) (by omega) HI.out).mono ?_); rintro e' wN ⟨rfl, hb⟩; have HB0 := btr HB0 HB0.size hb; have G1 := G1.below hb G1.lt; (try clear y0 y1 y2 y3 y4); have y0 := G1.cell_ 0; have y1 := G1.cell_ 1; have y2 := G1.cell_ 2; have y3 := G1.cell_ 3; have y4 := G1.cell_ 4; simp at y0 y1 y2 y3 y4; clear hb)))
  go_ret
  exact ⟨rfl, HB0⟩
end Go.Proofs.YtnpinkbbkhllaaaGreatDoor
namespace Go.Proofs.YtnpinkbbkhllaaaGreatDoor
open Go.ChangeShapes Go.WideShapes Go.ChangeAt Go.RowKit
attribute [local go_sem ↓] Go.wp_at_zero Go.wp_at_succ
theorem cell5D {w : World} {g : Nat} {t : TypeId} {a b c d e : Value} (h : Blk w g t #[a, b, c, d, e]) : w.cell? ⟨g, 0, none⟩ = some a ∧ w.cell? ⟨g, 1, none⟩ = some b ∧ w.cell? ⟨g, 2, none⟩ = some c ∧ w.cell? ⟨g, 3, none⟩ = some d ∧ w.cell? ⟨g, 4, none⟩ = some e := by
  have h0 := h.cell_ 0
  have h1 := h.cell_ 1
  have h2 := h.cell_ 2
  have h3 := h.cell_ 3
  have h4 := h.cell_ 4
  simp at h0 h1 h2 h3 h4
  exact ⟨h0, h1, h2, h3, h4⟩
theorem ins_nil (w : World) : Calls Tryz.prog 142 #[.slice none 0 0, .int .i64 0, .int .i64 0] w fun e' w' => (∃ v, e' = .returned v) ∧ w' = w := by
  go_enter Tryz.func142, Tryz.ntmps142
  go_wp2
  go_loop [6] (fun i => i = .int .i64 1) (fun i => 0)
  case atStart => rfl
  case round =>
    obtain rfl := hrel
    go_wp2
    exact bodyPost_end (v := .tuple #[]) (by simp [results, Tryz.results142, go_sem]) rfl ⟨⟨_, rfl⟩, rfl⟩
theorem blen64_0 (w : World) : Calls Tryz.prog 152 #[.int .u64 0] w fun e' w' => e' = .returned (.int .i64 0) ∧ w' = w := by
  go_enter Tryz.func152, Tryz.ntmps152
  go_wp2
  go_ret
  refine ⟨?_, rfl⟩
  kernel_rfl
theorem blen_0 (w : World) : Calls Tryz.prog 124 #[.int .u64 0] w fun e' w' => e' = .returned (.int .i64 0) ∧ w' = w := by
  go_enter Tryz.func124, Tryz.ntmps124
  go_wp2_with (go_at_call 152; ((with_reducible refine (blen64_0 _).mono ?_); rintro e' wN ⟨rfl, rfl⟩; skip))
  go_ret
  exact ⟨rfl, rfl⟩
theorem pdq_nil (w : World) : Calls Tryz.prog 123 #[.slice none 0 0, .int .i64 0, .int .i64 0, .int .i64 0] w fun e' w' => (∃ v, e' = .returned v) ∧ w' = w := by
  go_enter Tryz.func123, Tryz.ntmps123
  go_wp2
  go_loop [1, 2, 8] (fun a b i => a = .int .i64 0 ∧ b = .int .i64 0 ∧ i = .bool true) (fun a b i => 0)
  case atStart => exact ⟨rfl, rfl, rfl⟩
  case round =>
    obtain ⟨rfl, rfl, rfl⟩ := hrel
    go_wp2_with (go_at_call 142; ((with_reducible refine (ins_nil _).mono ?_); rintro e' wN ⟨⟨v, rfl⟩, rfl⟩; skip))
    apply bodyPost_ret (v := .tuple #[])
    · simp [results, Tryz.results123, go_sem]
    · rfl
    · exact ⟨⟨_, rfl⟩, rfl⟩
theorem sort_nil (w : World) : Calls Tryz.prog 82 #[.slice none 0 0] w fun e' w' => (∃ v, e' = .returned v) ∧ w' = w := by
  go_enter Tryz.func82, Tryz.ntmps82
  go_wp2_with (first | (go_at_call 124; ((with_reducible refine (blen_0 _).mono ?_); rintro e' wN ⟨rfl, rfl⟩; skip)) | (go_at_call 123; ((with_reducible refine (pdq_nil _).mono ?_); rintro e' wN ⟨⟨v, rfl⟩, rfl⟩; skip)))
  exact bodyPost_end (v := .tuple #[]) (by simp [results, Tryz.results82, go_sem]) rfl ⟨⟨_, rfl⟩, rfl⟩
theorem obj_nil (s : Sf) (v : Value) (w : World) (hS : ShR w w.heap.size v s) (ht : s.ts = []) :
    Calls Tryz.prog 41 #[v] w fun e' w' => e' = .returned (.slice none 0 0) ∧ Below w.heap.size w w' := by
  obtain ⟨Ab, cb, An, cn, rfl, -, -, -, -, -, -⟩ := hS.ex
  have h0 : s.ts.length = 0 := by rw [ht]; rfl
  rw [h0]
  have HB : Below w.heap.size w (w.alloc (.cells #[.int .i64 s.nb, .int .i64 s.nn, .int .i64 s.ns, .slice Ab s.bs.length cb, .slice An 0 cn] 41)) := (Below.refl w.heap.size w).alloc (Nat.le_refl _) _
  have B1 : Blk (w.alloc (.cells #[.int .i64 s.nb, .int .i64 s.nn, .int .i64 s.ns, .slice Ab s.bs.length cb, .slice An 0 cn] 41)) w.heap.size 41 #[.int .i64 s.nb, .int .i64 s.nn, .int .i64 s.ns, .slice Ab s.bs.length cb, .slice An 0 cn] := Blk.new_ w 41 #[.int .i64 s.nb, .int .i64 s.nn, .int .i64 s.ns, .slice Ab s.bs.length cb, .slice An 0 cn]
  have k4 := B1.cell_ 4
  simp at k4
  clear hS ht h0
  go_enter Tryz.func41, Tryz.ntmps41
  go_wp2
  go_loop [3, 9] (fun a i => a = .slice none 0 0 ∧ i = .int .i64 0) (fun a i => 0)
  case atStart => exact ⟨rfl, rfl⟩
  case round =>
    obtain ⟨rfl, rfl⟩ := hrel
    go_wp2_with (go_at_call 82; ((with_reducible refine (sort_nil _).mono ?_); rintro e' wN ⟨⟨v, rfl⟩, rfl⟩; skip))
    go_ret
    exact ⟨rfl, HB⟩
structure DeskI (w : World) (gd : Nat) (s : Sf) : Prop where
  ex : ∃ (Ab : Option Addr) (cb : Nat) (An : Option Addr) (cn : Nat) (vm : Value), Blk w gd 54 #[.int .i64 8, .int .i64 4, .int .i64 32, .int .i64 0, .int .i64 2, .int .i64 s.nb, .int .i64 s.nn, .int .i64 s.ns, (.slice Ab s.bs.length cb), (.slice An s.ts.length cn), vm] ∧ ShR w w.heap.size (.agg #[.int .i64 s.nb, .int .i64 s.nn, .int .i64 s.ns, .slice Ab s.bs.length cb, .slice An s.ts.length cn]) s
theorem DeskI.next {w w' : World} {gd : Nat} {s : Sf} (h : DeskI w gd s) (hb : Below w.heap.size w w') : DeskI w' gd s := by
  obtain ⟨Ab, cb, An, cn, vm, h1, h2⟩ := h.ex
  exact ⟨Ab, cb, An, cn, vm, h1.below hb h1.lt, h2.next hb⟩
theorem mayB_s : mayB 8 4 32 0 2 = true := by decide +kernel
theorem sl_one (w : World) (u : Value) (t : TypeId) : Sl (w.alloc (.cells #[u] t)) (w.alloc (.cells #[u] t)).heap.size (some ⟨w.heap.size, 0, none⟩) [u] := by
  refine Or.inr ⟨w.heap.size, 0, rfl, by simp, fun j x hj => ?_⟩
  rw [Joins.cell_of_block (heap_alloc_new w _), Nat.zero_add]
  cases j with
  | zero => simpa using hj
  | succ j => simp at hj
theorem need_2 {N : Nat} (h : N ≤ 32) : needI 32 [(N : Int)] = 2 := by
  unfold needI idxI
  simp only [sumP, partsI, List.length_singleton]
  omega
theorem lgs (w : World) : Calls Tryz.prog 48 #[.agg #[.int .i64 8, .int .i64 4, .int .i64 32, .int .i64 0, .int .i64 2]] w fun e' w' => e' = .returned (.int .i64 8) ∧ Below w.heap.size w w' := by
  have HB : Below w.heap.size w (w.alloc (.cells #[.int .i64 8, .int .i64 4, .int .i64 32, .int .i64 0, .int .i64 2] 48)) := (Below.refl w.heap.size w).alloc (Nat.le_refl _) _
  have B1 : Blk (w.alloc (.cells #[.int .i64 8, .int .i64 4, .int .i64 32, .int .i64 0, .int .i64 2] 48)) w.heap.size 48 #[.int .i64 8, .int .i64 4, .int .i64 32, .int .i64 0, .int .i64 2] := Blk.new_ w 48 #[.int .i64 8, .int .i64 4, .int .i64 32, .int .i64 0, .int .i64 2]
  obtain ⟨k0, k1, k2, k3, k4⟩ := cell5D B1
  go_enter Tryz.func48, Tryz.ntmps48
  go_wp2_with (first | (go_at_call 47; ((with_reducible refine (gmay9_any 8 4 32 0 2 _).mono ?_); rintro e' wN ⟨rfl, bx⟩; rw [mayB_s]; have HB := btr HB HB.size bx; have B1 := B1.below bx B1.lt; clear bx; (try clear k0 k1 k2 k3 k4); obtain ⟨k0, k1, k2, k3, k4⟩ := cell5D B1)) | (go_at_call 91; ((with_reducible refine (logical_any 8 4 32 0 2 _ (by decide) (by decide) (by decide) (by decide) (by decide) (by decide)).mono ?_); rintro e' wN ⟨rfl, bx⟩; have HB := btr HB HB.size bx; clear bx)))
  go_ret
  exact ⟨rfl, HB⟩
theorem cell11 {w : World} {g : Nat} {t : TypeId} {a0 a1 a2 a3 a4 a5 a6 a7 a8 a9 a10 : Value} (h : Blk w g t #[a0, a1, a2, a3, a4, a5, a6, a7, a8, a9, a10]) : w.cell? ⟨g, 0, none⟩ = some a0 ∧ w.cell? ⟨g, 1, none⟩ = some a1 ∧ w.cell? ⟨g, 2, none⟩ = some a2 ∧ w.cell? ⟨g, 3, none⟩ = some a3 ∧ w.cell? ⟨g, 4, none⟩ = some a4 ∧ w.cell? ⟨g, 5, none⟩ = some a5 ∧ w.cell? ⟨g, 6, none⟩ = some a6 ∧ w.cell? ⟨g, 7, none⟩ = some a7 ∧ w.cell? ⟨g, 8, none⟩ = some a8 ∧ w.cell? ⟨g, 9, none⟩ = some a9 ∧ w.cell? ⟨g, 10, none⟩ = some a10 := by
  have h0 := h.cell_ 0
  have h1 := h.cell_ 1
  have h2 := h.cell_ 2
  have h3 := h.cell_ 3
  have h4 := h.cell_ 4
  have h5 := h.cell_ 5
  have h6 := h.cell_ 6
  have h7 := h.cell_ 7
  have h8 := h.cell_ 8
  have h9 := h.cell_ 9
  have h10 := h.cell_ 10
  simp at h0 h1 h2 h3 h4 h5 h6 h7 h8 h9 h10
  exact ⟨h0, h1, h2, h3, h4, h5, h6, h7, h8, h9, h10⟩
theorem need_small (s : Sf) (gd : Nat) (w : World) (hD : DeskI w gd s) (hT : Tabs w) (hF : MayF s) (ht : s.ts = []) (N : Nat) (hN : (shL s).length = N) (hl : N ≤ 32) :
    Calls Tryz.prog 9 #[.pointer (some ⟨gd, 0, none⟩)] w fun e' w' => e' = .returned (.int .i64 2) ∧ Below w.heap.size w w' := by
  obtain ⟨Ab, cb, An, cn, vm, B1, hS⟩ := hD.ex
  have HSZ : Hid ((cond (mayS s) (shL s) []).length = N) := Lib.hid (by rw [mayS_conv hF]; exact hN)
  have HT0 := Lib.hid ht
  have HB : Below w.heap.size w w := Below.refl _ _
  have hS0 := hS
  have hT0 := hT
  obtain ⟨k0, k1, k2, k3, k4, k5, k6, k7, k8, k9, k10⟩ := cell11 B1
  clear hD hT hF ht hN hS
  go_enter Tryz.func9, Tryz.ntmps9
  go_wp2_with (first | (go_at_call 40; ((with_reducible refine (size_any s _ _ ((hS0.below HB).mono HB.size) (Tabs.next hT0 HB) N HSZ.out).mono ?_); rintro e' wN ⟨rfl, bx⟩; have HB := btr HB HB.size bx; have B1 := B1.below bx B1.lt; clear bx; have bx : Below wN.heap.size wN (wN.alloc (.cells #[.int .i64 (N : Int)] 3)) := (Below.refl _ _).alloc (Nat.le_refl _) _; have hs := sl_one wN (.int .i64 (N : Int)) 3; obtain ⟨gz, hgz⟩ : ∃ g, wN.heap.size = g := ⟨_, rfl⟩; rw [hgz] at hs; have HB := btr HB HB.size bx; have B1 := B1.below bx B1.lt; clear bx; (try clear k0 k1 k2 k3 k4 k5 k6 k7 k8 k9 k10); obtain ⟨k0, k1, k2, k3, k4, k5, k6, k7, k8, k9, k10⟩ := cell11 B1)) | (go_at_call 41; ((with_reducible refine (obj_nil s _ _ ((hS0.below HB).mono HB.size) HT0.out).mono ?_); rintro e' wN ⟨rfl, bx⟩; have hs := (hs.below bx).mono_ bx.size; have HB := btr HB HB.size bx; have B1 := B1.below bx B1.lt; clear bx; (try clear k0 k1 k2 k3 k4 k5 k6 k7 k8 k9 k10); obtain ⟨k0, k1, k2, k3, k4, k5, k6, k7, k8, k9, k10⟩ := cell11 B1)))
  go_loop [3, 20] (fun a i => a = .slice (some ⟨gz, 0, none⟩) 1 1 ∧ i = .int .i64 0) (fun a i => 0)
  case atStart => exact ⟨rfl, rfl⟩
  case round =>
    obtain ⟨rfl, rfl⟩ := hrel
    go_wp2_with (go_at_call 43; ((with_reducible refine (eneed_any 8 4 32 0 2 [(N : Int)] 1 2 _ _ _ (Lib.hid mayB_s) rfl (by decide) (fun z hz => by simp at hz; subst hz; omega) hs (need_2 hl)).mono ?_); rintro e' wN ⟨rfl, bx⟩; have HB := btr HB HB.size bx; clear bx))
    go_ret
    exact ⟨rfl, HB⟩
def sfE1 : Sf := ⟨1, 1, 1, [], []⟩
theorem mfE1 : MayF sfE1 := mayF_of (by decide +kernel)
theorem szE1 : (shL sfE1).length = 11 := by decide +kernel
theorem shrE1 (w : World) : ShR w w.heap.size (.agg #[.int .i64 1, .int .i64 1, .int .i64 1, .slice none 0 0, .slice none 0 0]) sfE1 := ⟨none, 0, none, 0, rfl, Or.inl rfl, ⟨[], rfl, Or.inl rfl, fun k n e h => by simp [sfE1] at h⟩, by decide, by decide, by decide, by decide⟩
theorem new_small (w : World) (hT : Tabs w) : Calls Tryz.prog 12 #[.agg #[.int .i64 8, .int .i64 4, .int .i64 32, .int .i64 0, .int .i64 2]] w fun e' w' => ∃ gd, e' = .returned (.pointer (some ⟨gd, 0, none⟩)) ∧ w.heap.size ≤ gd ∧ DeskI w' gd sfE1 ∧ Below w.heap.size w w' := by
  have hT0 := hT
  have HB : Below w.heap.size w (w.alloc (.cells #[.int .i64 8, .int .i64 4, .int .i64 32, .int .i64 0, .int .i64 2] 48)) := (Below.refl w.heap.size w).alloc (Nat.le_refl _) _
  have B1 : Blk (w.alloc (.cells #[.int .i64 8, .int .i64 4, .int .i64 32, .int .i64 0, .int .i64 2] 48)) w.heap.size 48 #[.int .i64 8, .int .i64 4, .int .i64 32, .int .i64 0, .int .i64 2] := Blk.new_ w 48 #[.int .i64 8, .int .i64 4, .int .i64 32, .int .i64 0, .int .i64 2]
  clear hT
  go_enter Tryz.func12, Tryz.ntmps12
  go_upto_region 1 with fail
  replace HB := drew_below HB
  replace B1 := drew_blk B1
  (try clear g0 g1 g2 g3 g4); obtain ⟨g0, g1, g2, g3, g4⟩ := cell5D B1
  refine wp_region_noPanic ?_
  refine wp_region_held_drew (S := (fun _ => True)) (by kernel_rfl) ?_ (fun hHeld => ?_)
  · exact trivial
  refine wpAnyH_ready (rs := [0, 1]) (by kernel_rfl) (by simp) ?_
  refine (AllReadyH.cons (o := ⟨some 4, .load 48 (.tmp 1), 48, "desk.go:26", #[], none⟩) rfl (fun K hK => ?_) (AllReadyH.cons (o := ⟨some 5, .call { callee := .value (.func 46), args := #[], argTypes := #[] }, 41, "desk.go:26", #[], none⟩) rfl (fun K hK => ?_) AllReadyH.nil))
  · go_simp
    refine hK.out _ _ ?_ (fun hNew => ?_)
    · exact trivial
    clear hK K hHeld
    have hHeld := hNew
    clear hNew
    try simp only [Act.put, pz1, pz2, pz3]
    refine wpAnyH_ready (rs := [1]) (by kernel_rfl) (by simp) ?_
    refine AllReadyH.cons (o := ⟨some 5, .call { callee := .value (.func 46), args := #[], argTypes := #[] }, 41, "desk.go:26", #[], none⟩) rfl (fun K hK => ?_) AllReadyH.nil
    go_simp
    (go_at_call 46; ((with_reducible refine (empty_any _).mono ?_); rintro e' wN ⟨rfl, bx⟩; have HB := btr HB HB.size bx; have B1 := B1.below bx B1.lt; clear bx; (try clear g0 g1 g2 g3 g4); obtain ⟨g0, g1, g2, g3, g4⟩ := cell5D B1))
    go_wp2_with fail
    refine hK.out _ _ ?_ (fun hNew => ?_)
    · exact trivial
    clear hK K hHeld
    have hHeld := hNew
    clear hNew
    try simp only [Act.put, pz1, pz2, pz3]
    refine tk 2 ?_; try simp only [Act.put, pz1, pz2, pz3]
    refine wpAnyH_ready (rs := [3]) (by kernel_rfl) (by simp) ?_
    refine AllReadyH.cons (o := ⟨some 7, .box 54 (.tmp 6), 22, "desk.go:26", #[⟨2, .data⟩], none⟩) rfl (fun K hK => ?_) AllReadyH.nil
    go_simp
    refine hK.out _ _ ?_ (fun hNew => ?_)
    · exact trivial
    clear hK K hHeld
    have hHeld := hNew
    clear hNew
    try simp only [Act.put, pz1, pz2, pz3]
    refine tk 4 ?_; try simp only [Act.put, pz1, pz2, pz3]
    refine wpAnyH_done (by kernel_rfl) ?_ _
    refine NoPanic.normal ?_
    clear hHeld
    have hge : w.heap.size ≤ wN.heap.size := HB.size
    have BD := Blk.new_ wN 54 #[.int .i64 8, .int .i64 4, .int .i64 32, .int .i64 0, .int .i64 2, .int .i64 1, .int .i64 1, .int .i64 1, (.slice none 0 0), (.slice none 0 0), (.map none)]
    have bx : Below wN.heap.size wN (wN.alloc (.cells #[.int .i64 8, .int .i64 4, .int .i64 32, .int .i64 0, .int .i64 2, .int .i64 1, .int .i64 1, .int .i64 1, (.slice none 0 0), (.slice none 0 0), (.map none)] 54)) := (Below.refl _ _).alloc (Nat.le_refl _) _
    have HD : DeskI (wN.alloc (.cells #[.int .i64 8, .int .i64 4, .int .i64 32, .int .i64 0, .int .i64 2, .int .i64 1, .int .i64 1, .int .i64 1, (.slice none 0 0), (.slice none 0 0), (.map none)] 54)) wN.heap.size sfE1 := ⟨none, 0, none, 0, .map none, BD, (shrE1 wN).next bx⟩
    have HB := btr HB HB.size bx
    have B1 := B1.below bx B1.lt
    obtain ⟨gd, hgd⟩ : ∃ g, wN.heap.size = g := ⟨_, rfl⟩
    rw [hgd] at HD hge
    clear bx BD
    (try clear g0 g1 g2 g3 g4); obtain ⟨g0, g1, g2, g3, g4⟩ := cell5D B1
    go_upto_region 2 with fail
    replace HB := drew_below HB
    replace B1 := drew_blk B1
    replace HD := HD.next (below_dr _)
    (try clear g0 g1 g2 g3 g4); obtain ⟨g0, g1, g2, g3, g4⟩ := cell5D B1
    refine wp_region_noPanic ?_
    refine wp_region_held_drew (S := (fun _ => True)) (by kernel_rfl) ?_ (fun hHeld => ?_)
    · exact trivial
    refine wpAnyH_ready (rs := [0]) (by kernel_rfl) (by simp) ?_
    refine AllReadyH.cons (o := ⟨some 8, .load 48 (.tmp 1), 48, "desk.go:27", #[], none⟩) rfl (fun K hK => ?_) AllReadyH.nil
    go_simp
    refine hK.out _ _ ?_ (fun hNew => ?_)
    · exact trivial
    clear hK K hHeld
    have hHeld := hNew
    clear hNew
    try simp only [Act.put, pz1, pz2, pz3]
    refine wpAnyH_ready (rs := [1]) (by kernel_rfl) (by simp) ?_
    refine AllReadyH.cons (o := ⟨some 9, .call { callee := .value (.func 47), args := #[.tmp 8], argTypes := #[48] }, 4, "desk.go:27", #[⟨0, .data⟩], none⟩) rfl (fun K hK => ?_) AllReadyH.nil
    go_simp
    (go_at_call 47; ((with_reducible refine (gmay9_any 8 4 32 0 2 _).mono ?_); rintro e' wN ⟨rfl, bx⟩; rw [mayB_s]; have HB := btr HB HB.size bx; have B1 := B1.below bx B1.lt; have HD := HD.next bx; clear bx; (try clear g0 g1 g2 g3 g4); obtain ⟨g0, g1, g2, g3, g4⟩ := cell5D B1))
    go_wp2_with fail
    refine hK.out _ _ ?_ (fun hNew => ?_)
    · exact trivial
    clear hK K hHeld
    have hHeld := hNew
    clear hNew
    try simp only [Act.put, pz1, pz2, pz3]
    refine tk 2 ?_; try simp only [Act.put, pz1, pz2, pz3]
    refine tk 3 ?_; try simp only [Act.put, pz1, pz2, pz3]
    refine tk 4 ?_; try simp only [Act.put, pz1, pz2, pz3]
    refine wpAnyH_ready (rs := [5, 6]) (by kernel_rfl) (by simp) ?_
    refine (AllReadyH.cons (o := ⟨some 13, .call { callee := .value (.func 9), args := #[.tmp 12], argTypes := #[22] }, 3, "desk.go:27", #[⟨4, .data⟩, ⟨3, .chain⟩, ⟨3, .guard⟩], some (3, false)⟩) rfl (fun K hK => ?_) (AllReadyH.cons (o := ⟨some 14, .load 48 (.tmp 1), 48, "desk.go:27", #[⟨3, .guard⟩], some (3, false)⟩) rfl (fun K hK => ?_) AllReadyH.nil))
    · go_simp
      (first | (go_at_call 47; ((with_reducible refine (gmay9_any 8 4 32 0 2 _).mono ?_); rintro e' wN ⟨rfl, bx⟩; rw [mayB_s]; have HB := btr HB HB.size bx; have B1 := B1.below bx B1.lt; have HD := HD.next bx; clear bx; (try clear g0 g1 g2 g3 g4); obtain ⟨g0, g1, g2, g3, g4⟩ := cell5D B1)) | (go_at_call 9; ((with_reducible refine (need_small sfE1 _ _ HD (Tabs.next hT0 HB) mfE1 rfl 11 szE1 (by decide)).mono ?_); rintro e' wN ⟨rfl, bx⟩; have HB := btr HB HB.size bx; have B1 := B1.below bx B1.lt; have HD := HD.next bx; clear bx; (try clear g0 g1 g2 g3 g4); obtain ⟨g0, g1, g2, g3, g4⟩ := cell5D B1)) | (go_at_call 48; ((with_reducible refine (lgs _).mono ?_); rintro e' wN ⟨rfl, bx⟩; have HB := btr HB HB.size bx; have B1 := B1.below bx B1.lt; have HD := HD.next bx; clear bx; (try clear g0 g1 g2 g3 g4); obtain ⟨g0, g1, g2, g3, g4⟩ := cell5D B1)))
      go_wp2_with fail
      refine hK.out _ _ ?_ (fun hNew => ?_)
      · exact trivial
      clear hK K hHeld
      have hHeld := hNew
      clear hNew
      try simp only [Act.put, pz1, pz2, pz3]
      refine wpAnyH_ready (rs := [6]) (by kernel_rfl) (by simp) ?_
      refine AllReadyH.cons (o := ⟨some 14, .load 48 (.tmp 1), 48, "desk.go:27", #[⟨3, .guard⟩], some (3, false)⟩) rfl (fun K hK => ?_) AllReadyH.nil
      go_simp
      refine hK.out _ _ ?_ (fun hNew => ?_)
      · exact trivial
      clear hK K hHeld
      have hHeld := hNew
      clear hNew
      try simp only [Act.put, pz1, pz2, pz3]
      refine wpAnyH_ready (rs := [7]) (by kernel_rfl) (by simp) ?_
      refine AllReadyH.cons (o := ⟨some 15, .call { callee := .value (.func 48), args := #[.tmp 14], argTypes := #[48] }, 3, "desk.go:27", #[⟨6, .data⟩, ⟨5, .chain⟩, ⟨3, .guard⟩], some (3, false)⟩) rfl (fun K hK => ?_) AllReadyH.nil
      go_simp
      (go_at_call 48; ((with_reducible refine (lgs _).mono ?_); rintro e' wN ⟨rfl, bx⟩; have HB := btr HB HB.size bx; have B1 := B1.below bx B1.lt; have HD := HD.next bx; clear bx; (try clear g0 g1 g2 g3 g4); obtain ⟨g0, g1, g2, g3, g4⟩ := cell5D B1))
      go_wp2_with fail
      refine hK.out _ _ ?_ (fun hNew => ?_)
      · exact trivial
      clear hK K hHeld
      have hHeld := hNew
      clear hNew
      try simp only [Act.put, pz1, pz2, pz3]
      refine tk 8 ?_; try simp only [Act.put, pz1, pz2, pz3]
      refine tk 9 ?_; try simp only [Act.put, pz1, pz2, pz3]
      refine wpAnyH_done (by kernel_rfl) ?_ _
      refine NoPanic.normal ?_
      clear hHeld
      go_wp2_with fail
      go_ret
      exact ⟨gd, rfl, hge, HD, HB⟩
    · go_simp
      refine hK.out _ _ ?_ (fun hNew => ?_)
      · exact trivial
      clear hK K hHeld
      have hHeld := hNew
      clear hNew
      try simp only [Act.put, pz1, pz2, pz3]
      refine wpAnyH_ready (rs := [5]) (by kernel_rfl) (by simp) ?_
      refine AllReadyH.cons (o := ⟨some 13, .call { callee := .value (.func 9), args := #[.tmp 12], argTypes := #[22] }, 3, "desk.go:27", #[⟨4, .data⟩, ⟨3, .chain⟩, ⟨3, .guard⟩], some (3, false)⟩) rfl (fun K hK => ?_) AllReadyH.nil
      go_simp
      (go_at_call 9; ((with_reducible refine (need_small sfE1 _ _ HD (Tabs.next hT0 HB) mfE1 rfl 11 szE1 (by decide)).mono ?_); rintro e' wN ⟨rfl, bx⟩; have HB := btr HB HB.size bx; have B1 := B1.below bx B1.lt; have HD := HD.next bx; clear bx; (try clear g0 g1 g2 g3 g4); obtain ⟨g0, g1, g2, g3, g4⟩ := cell5D B1))
      go_wp2_with fail
      refine hK.out _ _ ?_ (fun hNew => ?_)
      · exact trivial
      clear hK K hHeld
      have hHeld := hNew
      clear hNew
      try simp only [Act.put, pz1, pz2, pz3]
      refine wpAnyH_ready (rs := [7]) (by kernel_rfl) (by simp) ?_
      refine AllReadyH.cons (o := ⟨some 15, .call { callee := .value (.func 48), args := #[.tmp 14], argTypes := #[48] }, 3, "desk.go:27", #[⟨6, .data⟩, ⟨5, .chain⟩, ⟨3, .guard⟩], some (3, false)⟩) rfl (fun K hK => ?_) AllReadyH.nil
      go_simp
      (go_at_call 48; ((with_reducible refine (lgs _).mono ?_); rintro e' wN ⟨rfl, bx⟩; have HB := btr HB HB.size bx; have B1 := B1.below bx B1.lt; have HD := HD.next bx; clear bx; (try clear g0 g1 g2 g3 g4); obtain ⟨g0, g1, g2, g3, g4⟩ := cell5D B1))
      go_wp2_with fail
      refine hK.out _ _ ?_ (fun hNew => ?_)
      · exact trivial
      clear hK K hHeld
      have hHeld := hNew
      clear hNew
      try simp only [Act.put, pz1, pz2, pz3]
      refine tk 8 ?_; try simp only [Act.put, pz1, pz2, pz3]
      refine tk 9 ?_; try simp only [Act.put, pz1, pz2, pz3]
      refine wpAnyH_done (by kernel_rfl) ?_ _
      refine NoPanic.normal ?_
      clear hHeld
      go_wp2_with fail
      go_ret
      exact ⟨gd, rfl, hge, HD, HB⟩
  · go_simp
    (go_at_call 46; ((with_reducible refine (empty_any _).mono ?_); rintro e' wN ⟨rfl, bx⟩; have HB := btr HB HB.size bx; have B1 := B1.below bx B1.lt; clear bx; (try clear g0 g1 g2 g3 g4); obtain ⟨g0, g1, g2, g3, g4⟩ := cell5D B1))
    go_wp2_with fail
    refine hK.out _ _ ?_ (fun hNew => ?_)
    · exact trivial
    clear hK K hHeld
    have hHeld := hNew
    clear hNew
    try simp only [Act.put, pz1, pz2, pz3]
    refine wpAnyH_ready (rs := [0]) (by kernel_rfl) (by simp) ?_
    refine AllReadyH.cons (o := ⟨some 4, .load 48 (.tmp 1), 48, "desk.go:26", #[], none⟩) rfl (fun K hK => ?_) AllReadyH.nil
    go_simp
    refine hK.out _ _ ?_ (fun hNew => ?_)
    · exact trivial
    clear hK K hHeld
    have hHeld := hNew
    clear hNew
    try simp only [Act.put, pz1, pz2, pz3]
    refine tk 2 ?_; try simp only [Act.put, pz1, pz2, pz3]
    refine wpAnyH_ready (rs := [3]) (by kernel_rfl) (by simp) ?_
    refine AllReadyH.cons (o := ⟨some 7, .box 54 (.tmp 6), 22, "desk.go:26", #[⟨2, .data⟩], none⟩) rfl (fun K hK => ?_) AllReadyH.nil
    go_simp
    refine hK.out _ _ ?_ (fun hNew => ?_)
    · exact trivial
    clear hK K hHeld
    have hHeld := hNew
    clear hNew
    try simp only [Act.put, pz1, pz2, pz3]
    refine tk 4 ?_; try simp only [Act.put, pz1, pz2, pz3]
    refine wpAnyH_done (by kernel_rfl) ?_ _
    refine NoPanic.normal ?_
    clear hHeld
    have hge : w.heap.size ≤ wN.heap.size := HB.size
    have BD := Blk.new_ wN 54 #[.int .i64 8, .int .i64 4, .int .i64 32, .int .i64 0, .int .i64 2, .int .i64 1, .int .i64 1, .int .i64 1, (.slice none 0 0), (.slice none 0 0), (.map none)]
    have bx : Below wN.heap.size wN (wN.alloc (.cells #[.int .i64 8, .int .i64 4, .int .i64 32, .int .i64 0, .int .i64 2, .int .i64 1, .int .i64 1, .int .i64 1, (.slice none 0 0), (.slice none 0 0), (.map none)] 54)) := (Below.refl _ _).alloc (Nat.le_refl _) _
    have HD : DeskI (wN.alloc (.cells #[.int .i64 8, .int .i64 4, .int .i64 32, .int .i64 0, .int .i64 2, .int .i64 1, .int .i64 1, .int .i64 1, (.slice none 0 0), (.slice none 0 0), (.map none)] 54)) wN.heap.size sfE1 := ⟨none, 0, none, 0, .map none, BD, (shrE1 wN).next bx⟩
    have HB := btr HB HB.size bx
    have B1 := B1.below bx B1.lt
    obtain ⟨gd, hgd⟩ : ∃ g, wN.heap.size = g := ⟨_, rfl⟩
    rw [hgd] at HD hge
    clear bx BD
    (try clear g0 g1 g2 g3 g4); obtain ⟨g0, g1, g2, g3, g4⟩ := cell5D B1
    go_upto_region 2 with fail
    replace HB := drew_below HB
    replace B1 := drew_blk B1
    replace HD := HD.next (below_dr _)
    (try clear g0 g1 g2 g3 g4); obtain ⟨g0, g1, g2, g3, g4⟩ := cell5D B1
    refine wp_region_noPanic ?_
    refine wp_region_held_drew (S := (fun _ => True)) (by kernel_rfl) ?_ (fun hHeld => ?_)
    · exact trivial
    refine wpAnyH_ready (rs := [0]) (by kernel_rfl) (by simp) ?_
    refine AllReadyH.cons (o := ⟨some 8, .load 48 (.tmp 1), 48, "desk.go:27", #[], none⟩) rfl (fun K hK => ?_) AllReadyH.nil
    go_simp
    refine hK.out _ _ ?_ (fun hNew => ?_)
    · exact trivial
    clear hK K hHeld
    have hHeld := hNew
    clear hNew
    try simp only [Act.put, pz1, pz2, pz3]
    refine wpAnyH_ready (rs := [1]) (by kernel_rfl) (by simp) ?_
    refine AllReadyH.cons (o := ⟨some 9, .call { callee := .value (.func 47), args := #[.tmp 8], argTypes := #[48] }, 4, "desk.go:27", #[⟨0, .data⟩], none⟩) rfl (fun K hK => ?_) AllReadyH.nil
    go_simp
    (go_at_call 47; ((with_reducible refine (gmay9_any 8 4 32 0 2 _).mono ?_); rintro e' wN ⟨rfl, bx⟩; rw [mayB_s]; have HB := btr HB HB.size bx; have B1 := B1.below bx B1.lt; have HD := HD.next bx; clear bx; (try clear g0 g1 g2 g3 g4); obtain ⟨g0, g1, g2, g3, g4⟩ := cell5D B1))
    go_wp2_with fail
    refine hK.out _ _ ?_ (fun hNew => ?_)
    · exact trivial
    clear hK K hHeld
    have hHeld := hNew
    clear hNew
    try simp only [Act.put, pz1, pz2, pz3]
    refine tk 2 ?_; try simp only [Act.put, pz1, pz2, pz3]
    refine tk 3 ?_; try simp only [Act.put, pz1, pz2, pz3]
    refine tk 4 ?_; try simp only [Act.put, pz1, pz2, pz3]
    refine wpAnyH_ready (rs := [5, 6]) (by kernel_rfl) (by simp) ?_
    refine (AllReadyH.cons (o := ⟨some 13, .call { callee := .value (.func 9), args := #[.tmp 12], argTypes := #[22] }, 3, "desk.go:27", #[⟨4, .data⟩, ⟨3, .chain⟩, ⟨3, .guard⟩], some (3, false)⟩) rfl (fun K hK => ?_) (AllReadyH.cons (o := ⟨some 14, .load 48 (.tmp 1), 48, "desk.go:27", #[⟨3, .guard⟩], some (3, false)⟩) rfl (fun K hK => ?_) AllReadyH.nil))
    · go_simp
      (first | (go_at_call 47; ((with_reducible refine (gmay9_any 8 4 32 0 2 _).mono ?_); rintro e' wN ⟨rfl, bx⟩; rw [mayB_s]; have HB := btr HB HB.size bx; have B1 := B1.below bx B1.lt; have HD := HD.next bx; clear bx; (try clear g0 g1 g2 g3 g4); obtain ⟨g0, g1, g2, g3, g4⟩ := cell5D B1)) | (go_at_call 9; ((with_reducible refine (need_small sfE1 _ _ HD (Tabs.next hT0 HB) mfE1 rfl 11 szE1 (by decide)).mono ?_); rintro e' wN ⟨rfl, bx⟩; have HB := btr HB HB.size bx; have B1 := B1.below bx B1.lt; have HD := HD.next bx; clear bx; (try clear g0 g1 g2 g3 g4); obtain ⟨g0, g1, g2, g3, g4⟩ := cell5D B1)) | (go_at_call 48; ((with_reducible refine (lgs _).mono ?_); rintro e' wN ⟨rfl, bx⟩; have HB := btr HB HB.size bx; have B1 := B1.below bx B1.lt; have HD := HD.next bx; clear bx; (try clear g0 g1 g2 g3 g4); obtain ⟨g0, g1, g2, g3, g4⟩ := cell5D B1)))
      go_wp2_with fail
      refine hK.out _ _ ?_ (fun hNew => ?_)
      · exact trivial
      clear hK K hHeld
      have hHeld := hNew
      clear hNew
      try simp only [Act.put, pz1, pz2, pz3]
      refine wpAnyH_ready (rs := [6]) (by kernel_rfl) (by simp) ?_
      refine AllReadyH.cons (o := ⟨some 14, .load 48 (.tmp 1), 48, "desk.go:27", #[⟨3, .guard⟩], some (3, false)⟩) rfl (fun K hK => ?_) AllReadyH.nil
      go_simp
      refine hK.out _ _ ?_ (fun hNew => ?_)
      · exact trivial
      clear hK K hHeld
      have hHeld := hNew
      clear hNew
      try simp only [Act.put, pz1, pz2, pz3]
      refine wpAnyH_ready (rs := [7]) (by kernel_rfl) (by simp) ?_
      refine AllReadyH.cons (o := ⟨some 15, .call { callee := .value (.func 48), args := #[.tmp 14], argTypes := #[48] }, 3, "desk.go:27", #[⟨6, .data⟩, ⟨5, .chain⟩, ⟨3, .guard⟩], some (3, false)⟩) rfl (fun K hK => ?_) AllReadyH.nil
      go_simp
      (go_at_call 48; ((with_reducible refine (lgs _).mono ?_); rintro e' wN ⟨rfl, bx⟩; have HB := btr HB HB.size bx; have B1 := B1.below bx B1.lt; have HD := HD.next bx; clear bx; (try clear g0 g1 g2 g3 g4); obtain ⟨g0, g1, g2, g3, g4⟩ := cell5D B1))
      go_wp2_with fail
      refine hK.out _ _ ?_ (fun hNew => ?_)
      · exact trivial
      clear hK K hHeld
      have hHeld := hNew
      clear hNew
      try simp only [Act.put, pz1, pz2, pz3]
      refine tk 8 ?_; try simp only [Act.put, pz1, pz2, pz3]
      refine tk 9 ?_; try simp only [Act.put, pz1, pz2, pz3]
      refine wpAnyH_done (by kernel_rfl) ?_ _
      refine NoPanic.normal ?_
      clear hHeld
      go_wp2_with fail
      go_ret
      exact ⟨gd, rfl, hge, HD, HB⟩
    · go_simp
      refine hK.out _ _ ?_ (fun hNew => ?_)
      · exact trivial
      clear hK K hHeld
      have hHeld := hNew
      clear hNew
      try simp only [Act.put, pz1, pz2, pz3]
      refine wpAnyH_ready (rs := [5]) (by kernel_rfl) (by simp) ?_
      refine AllReadyH.cons (o := ⟨some 13, .call { callee := .value (.func 9), args := #[.tmp 12], argTypes := #[22] }, 3, "desk.go:27", #[⟨4, .data⟩, ⟨3, .chain⟩, ⟨3, .guard⟩], some (3, false)⟩) rfl (fun K hK => ?_) AllReadyH.nil
      go_simp
      (go_at_call 9; ((with_reducible refine (need_small sfE1 _ _ HD (Tabs.next hT0 HB) mfE1 rfl 11 szE1 (by decide)).mono ?_); rintro e' wN ⟨rfl, bx⟩; have HB := btr HB HB.size bx; have B1 := B1.below bx B1.lt; have HD := HD.next bx; clear bx; (try clear g0 g1 g2 g3 g4); obtain ⟨g0, g1, g2, g3, g4⟩ := cell5D B1))
      go_wp2_with fail
      refine hK.out _ _ ?_ (fun hNew => ?_)
      · exact trivial
      clear hK K hHeld
      have hHeld := hNew
      clear hNew
      try simp only [Act.put, pz1, pz2, pz3]
      refine wpAnyH_ready (rs := [7]) (by kernel_rfl) (by simp) ?_
      refine AllReadyH.cons (o := ⟨some 15, .call { callee := .value (.func 48), args := #[.tmp 14], argTypes := #[48] }, 3, "desk.go:27", #[⟨6, .data⟩, ⟨5, .chain⟩, ⟨3, .guard⟩], some (3, false)⟩) rfl (fun K hK => ?_) AllReadyH.nil
      go_simp
      (go_at_call 48; ((with_reducible refine (lgs _).mono ?_); rintro e' wN ⟨rfl, bx⟩; have HB := btr HB HB.size bx; have B1 := B1.below bx B1.lt; have HD := HD.next bx; clear bx; (try clear g0 g1 g2 g3 g4); obtain ⟨g0, g1, g2, g3, g4⟩ := cell5D B1))
      go_wp2_with fail
      refine hK.out _ _ ?_ (fun hNew => ?_)
      · exact trivial
      clear hK K hHeld
      have hHeld := hNew
      clear hNew
      try simp only [Act.put, pz1, pz2, pz3]
      refine tk 8 ?_; try simp only [Act.put, pz1, pz2, pz3]
      refine tk 9 ?_; try simp only [Act.put, pz1, pz2, pz3]
      refine wpAnyH_done (by kernel_rfl) ?_ _
      refine NoPanic.normal ?_
      clear hHeld
      go_wp2_with fail
      go_ret
      exact ⟨gd, rfl, hge, HD, HB⟩
end Go.Proofs.YtnpinkbbkhllaaaGreatDoor
