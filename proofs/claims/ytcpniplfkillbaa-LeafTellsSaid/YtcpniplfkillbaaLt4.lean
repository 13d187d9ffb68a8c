/- What chapter 7's own chip is in a world. -/
import Derived.Test.YtcpniplfkillbaaLt2
import Derived.Test.YtcpniplfkillbaaLt3
import Derived.Deep.CutBlock
import Derived.StillTailTactics
set_option linter.unusedSimpArgs false
set_option linter.unusedVariables false
set_option maxRecDepth 100000
set_option maxHeartbeats 16000000
namespace Go.Proofs.Ytcpniplfkillbaa
open Go.ChangeShapes Go.WideShapes Go.ChangeAt Go.RowKit
def ChS.wait (s : ChS) : Int := if s.armed then s.turn - s.ops else 0
def rfB (m gB gN gW gD : Nat) (g : Nat) : Prop := g = m ∨ g = gB ∨ g = gN ∨ g = gW ∨ g = gD
structure PgAt (w : World) (L : Nat) (S : Nat → Prop) (RW : Nat) (X : List Nat) (N : Nat) (p : Nat × Nat) : Prop where
  lt : p.1 < w.heap.size
  ge : L ≤ p.1
  ns : ¬ S p.1
  cap : RW ≤ p.2
  cap2 : p.2 ≤ maxLen
  cell : ∀ j, j < RW → w.cell? ⟨p.1, j, none⟩ = some (byteV (X.getD (N * RW + j) 0))
theorem PgAt.keep {w w' : World} {L RW N : Nat} {S : Nat → Prop} {X : List Nat} {p : Nat × Nat} (h : PgAt w L S RW X N p) (hz : w.heap.size ≤ w'.heap.size) (hk : w'.heap[p.1]? = w.heap[p.1]?) : PgAt w' L S RW X N p :=
  ⟨by have := h.lt; omega, h.ge, h.ns, h.cap, h.cap2, fun j hj => by rw [← h.cell j hj]; exact World.cell?_of_block (w := w) hk⟩
def pgV (RW : Nat) (p : Nat × Nat) : Value := .slice (some ⟨p.1, 0, none⟩) RW p.2
def FltR (w : World) (L : Nat) (S : Nat → Prop) (A : Option Addr) (fs : List Flt) : Prop :=
  fs = [] ∨ ∃ g off, A = some ⟨g, off, none⟩ ∧ g < w.heap.size ∧ L ≤ g ∧ ¬ S g ∧ ∀ k f, fs[k]? = some f →
    w.cell? ⟨g, off + k * 3, none⟩ = some (.int .i64 f.blk) ∧ w.cell? ⟨g, off + k * 3 + 1, none⟩ = some (.bool f.fac) ∧ w.cell? ⟨g, off + k * 3 + 2, none⟩ = some (.int .i64 f.aft)
theorem FltR.sl {w : World} {L : Nat} {S : Nat → Prop} {A : Option Addr} {fs : List Flt} (h : FltR w L S A fs) : SlF w w.heap.size A fs := by
  rcases h with h | ⟨g, off, e, hlt, _, _, hc⟩
  · exact Or.inl h
  · exact Or.inr ⟨g, off, e, hlt, hc⟩
theorem FltR.keep {w w' : World} {L : Nat} {S : Nat → Prop} {A : Option Addr} {fs : List Flt} (h : FltR w L S A fs) (hz : w.heap.size ≤ w'.heap.size) (hk : ∀ g, g < w.heap.size → L ≤ g → ¬ S g → w'.heap[g]? = w.heap[g]?) : FltR w' L S A fs := by
  rcases h with h | ⟨g, off, e, hlt, h1, h2, hc⟩
  · exact Or.inl h
  · have hq : ∀ o, w'.cell? ⟨g, o, none⟩ = w.cell? ⟨g, o, none⟩ := fun o => World.cell?_of_block (w := w) (hk g hlt h1 h2)
    exact Or.inr ⟨g, off, e, by omega, h1, h2, fun k f hf => by rw [hq, hq, hq]; exact hc k f hf⟩
def kcol (K : List Int) (j NB : Nat) : List Value := (List.range NB).map (fun i => Value.int .i64 (K.getD (3 * i + j) 0))
theorem kcol_len (K : List Int) (j NB : Nat) : (kcol K j NB).length = NB := by simp [kcol]
theorem kcol_at (K : List Int) (j NB k : Nat) (h : k < NB) : (kcol K j NB)[k]? = some (.int .i64 (K.getD (3 * k + j) 0)) := by
  unfold kcol
  rw [List.getElem?_map, List.getElem?_range h]
  rfl
structure RefW (w : World) (m gB gN gW gD L : Nat) (Af : Option Addr) (nf cf : Nat) (a b c d e : Int) (fs : List Flt) (s : ChS) : Prop where
  blk : ∃ (cB NP NB RW : Nat), (RW : Int) = c + 16 ∧ (NP : Int) = a * b ∧ (NB : Int) = a ∧ NP ≤ cB ∧ Blk w m 94 #[.int .i64 a, .int .i64 b, .int .i64 c, .int .i64 d, .int .i64 e, .slice Af nf cf, .slice (some ⟨gB, 0, none⟩) NP cB, .slice (some ⟨gN, 0, none⟩) NB NB, .slice (some ⟨gW, 0, none⟩) NB NB, .slice (some ⟨gD, 0, none⟩) NB NB, .int .i64 (s).ops, .int .i64 (s).cuts, .bool (!(s).on), .int .i64 (s).wait, .int .i64 (s).cop, .int .i64 (s).cby, .int .u8 ((s).fill : Nat)] ∧
    ∃ P : List (Nat × Nat), P.length = NP ∧ RowT w gB 38 (P.map (pgV RW)) ∧ ∀ i p, P[i]? = some p → PgAt w L (rfB m gB gN gW gD) RW s.X i p
  rN : RowT w gN 3 (kcol s.K 0 a.toNat)
  rW : RowT w gW 3 (kcol s.K 1 a.toNat)
  rD : RowT w gD 3 (kcol s.K 2 a.toNat)
  flt : FltR w L (rfB m gB gN gW gD) Af fs
  ne : (m ≠ gB ∧ m ≠ gN ∧ m ≠ gW ∧ m ≠ gD) ∧ (gB ≠ gN ∧ gB ≠ gW ∧ gB ≠ gD) ∧ (gN ≠ gW ∧ gN ≠ gD) ∧ gW ≠ gD
  ge : ∀ g, rfB m gB gN gW gD g → L ≤ g
  lenX : s.X.length = (a * b * (c + 16)).toNat
  lenK : s.K.length = 3 * a.toNat
  nf : fs.length = nf
  may : planMay a b c d e fs = true
theorem RefW.keep {w w' : World} {m gB gN gW gD L : Nat} {Af : Option Addr} {nf cf : Nat} {a b c d e : Int} {fs : List Flt} {s : ChS} (h : RefW w m gB gN gW gD L Af nf cf a b c d e fs s) (hz : w.heap.size ≤ w'.heap.size) (hk : ∀ g, g < w.heap.size → L ≤ g → w'.heap[g]? = w.heap[g]?) : RefW w' m gB gN gW gD L Af nf cf a b c d e fs s := by
  obtain ⟨⟨cB, NP, NB, RW, hRW, hNP, hNB, hcB, hB, P, hPl, rB, hP⟩, rN, rW, rD, rF, hne, hge, l1, l2, l3, l4⟩ := h
  exact ⟨⟨cB, NP, NB, RW, hRW, hNP, hNB, hcB, (hk _ hB.lt (hge _ (Or.inl rfl))).trans hB, P, hPl, rB.keep (hk _ rB.lt (hge _ (Or.inr (Or.inl rfl)))), fun i p hi => (hP i p hi).keep hz (hk _ (hP i p hi).lt (hP i p hi).ge)⟩,
    rN.keep (hk _ rN.lt (hge _ (Or.inr (Or.inr (Or.inl rfl))))), rW.keep (hk _ rW.lt (hge _ (Or.inr (Or.inr (Or.inr (Or.inl rfl)))))), rD.keep (hk _ rD.lt (hge _ (Or.inr (Or.inr (Or.inr (Or.inr rfl)))))), rF.keep hz (fun g hg h1 _ => hk g hg h1), hne, hge, l1, l2, l3, l4⟩
theorem RefW.lt {w : World} {m gB gN gW gD L : Nat} {Af : Option Addr} {nf cf : Nat} {a b c d e : Int} {fs : List Flt} {s : ChS} (h : RefW w m gB gN gW gD L Af nf cf a b c d e fs s) : m < w.heap.size := by
  obtain ⟨⟨cB, NP, NB, RW, hRW, hNP, hNB, hcB, hB, P, hPl, rB, hP⟩, rN, rW, rD, rF, hne, hge, l1, l2, l3, l4⟩ := h
  exact hB.lt
theorem RefW.below {w w' : World} {m gB gN gW gD L : Nat} {Af : Option Addr} {nf cf : Nat} {a b c d e : Int} {fs : List Flt} {s : ChS} (h : RefW w m gB gN gW gD L Af nf cf a b c d e fs s) (hb : Below w.heap.size w w') : RefW w' m gB gN gW gD L Af nf cf a b c d e fs s := h.keep hb.size (fun g hg _ => hb.block g hg)
theorem RefW.like {w w' : World} {m gB gN gW gD L : Nat} {Af : Option Addr} {nf cf : Nat} {a b c d e : Int} {fs : List Flt} {s : ChS} (h : RefW w m gB gN gW gD L Af nf cf a b c d e fs s) (e1 : w'.heap = w.heap := by rfl) : RefW w' m gB gN gW gD L Af nf cf a b c d e fs s := h.keep (by rw [e1]; exact Nat.le_refl _) (fun g _ _ => by rw [e1])
theorem RefW.drew {w : World} {m gB gN gW gD L : Nat} {Af : Option Addr} {nf cf : Nat} {a b c d e : Int} {fs : List Flt} {s : ChS} (h : RefW w m gB gN gW gD L Af nf cf a b c d e fs s) : RefW w.drew m gB gN gW gD L Af nf cf a b c d e fs s := h.like
theorem RefW.likeB {w w1 w' : World} {m gB gN gW gD L : Nat} {Af : Option Addr} {nf cf : Nat} {a b c d e : Int} {fs : List Flt} {s : ChS} (h : RefW w m gB gN gW gD L Af nf cf a b c d e fs s) (hb : Below w1.heap.size w1 w') (he : w1.heap = w.heap := by rfl) : RefW w' m gB gN gW gD L Af nf cf a b c d e fs s := (h.like he).below hb
theorem RefW.far {w w' : World} {m gB gN gW gD L : Nat} {Af : Option Addr} {nf cf : Nat} {a b c d e : Int} {fs : List Flt} {s : ChS} (h : RefW w m gB gN gW gD L Af nf cf a b c d e fs s) {S : Nat → Prop} (hT : Tch S w w') (hs : ∀ g, S g → g < L) : RefW w' m gB gN gW gD L Af nf cf a b c d e fs s :=
  h.keep hT.size (fun g hg h1 => hT.far g hg (fun h2 => by have := hs g h2; omega))
theorem RefW.put {w w' : World} {m gB gN gW gD L : Nat} {Af : Option Addr} {nf cf : Nat} {a b c d e : Int} {fs : List Flt} {s : ChS} (hC : RefW w m gB gN gW gD L Af nf cf a b c d e fs s) (s' : ChS) {cB NP NB : Nat} (hNP : (NP : Int) = a * b) (hNB : (NB : Int) = a) (hcB : NP ≤ cB) (hB : Blk w' m 94 #[.int .i64 a, .int .i64 b, .int .i64 c, .int .i64 d, .int .i64 e, .slice Af nf cf, .slice (some ⟨gB, 0, none⟩) NP cB, .slice (some ⟨gN, 0, none⟩) NB NB, .slice (some ⟨gW, 0, none⟩) NB NB, .slice (some ⟨gD, 0, none⟩) NB NB, .int .i64 (s').ops, .int .i64 (s').cuts, .bool (!(s').on), .int .i64 (s').wait, .int .i64 (s').cop, .int .i64 (s').cby, .int .u8 ((s').fill : Nat)]) (hT : Tch (fun g => g = m) w w') (h1 : s'.X = s.X) (h2 : s'.K = s.K) : RefW w' m gB gN gW gD L Af nf cf a b c d e fs s' := by
  obtain ⟨⟨cB0, NP0, NB0, RW, hRW, hNP0, hNB0, hcB0, hB0, P, hPl, rB, hP⟩, rN, rW, rD, rF, hne, hge, l1, l2, l3, l4⟩ := hC
  obtain ⟨n1, n2, n3, n4⟩ := hne.1
  have e : NP = NP0 := by omega
  subst e
  refine ⟨⟨cB, NP, NB, RW, hRW, hNP, hNB, hcB, hB, P, hPl, rB.keep (hT.far _ rB.lt (fun e => n1 e.symm)), fun i p hi => ?_⟩, ?_, ?_, ?_, rF.keep hT.size (fun g hg _ hs => hT.far g hg (fun e => hs (Or.inl e))), hne, hge, by rw [h1]; exact l1, by rw [h2]; exact l2, l3, l4⟩
  · rw [h1]
    exact (hP i p hi).keep hT.size (hT.far _ (hP i p hi).lt (fun e => (hP i p hi).ns (Or.inl e)))
  · rw [h2]
    exact rN.keep (hT.far _ rN.lt (fun e => n2 e.symm))
  · rw [h2]
    exact rW.keep (hT.far _ rW.lt (fun e => n3 e.symm))
  · rw [h2]
    exact rD.keep (hT.far _ rD.lt (fun e => n4 e.symm))
end Go.Proofs.Ytcpniplfkillbaa
namespace Go.Proofs.Ytcpniplfkillbaa
open Go.ChangeShapes Go.WideShapes Go.ChangeAt Go.RowKit
structure ChS.Wt (s : ChS) : Prop where
  w0 : s.armed = true → s.ops + 1 ≤ s.turn
  w1 : s.armed = true → s.turn ≤ 4000000000
theorem fill_any (x Q : Nat) (w : World) (hQ : Q ≤ 1000) : Calls Try.prog 59 #[.int .u8 (x : Int), .int .i64 (Q : Int)] w fun e' w' => (∃ g, e' = .returned (.slice (some ⟨g, 0, none⟩) Q Q) ∧ RowT w' g 5 ((List.replicate Q x).map byteV) ∧ w.heap.size ≤ g) ∧ Below w.heap.size w w' := by
  have i0 : (0 : Int) ≤ (Q : Int) := by omega
  have i1 : (Q : Int) ≤ 1000 := by omega
  go_enter Try.func59, Try.ntmps59
  go_wp2_with (at_make; obtain ⟨ti0, hi, hz0, hz1, hz2⟩ := info_parts infoByte; refine wpList_make_full _ rfl _ _ 38 rfl w.heap.size 5 ti0 (.int .u8 0) 1 Try.underlying38 hi hz0 hz1 _ _ _ _ Q rfl rfl rfl rfl (by rw [hz2]; omega) (by unfold maxLen; omega) (Nat.le_refl _) ?_; intro w1 hown1 hgrow1; clear hi hz0 hz1 hz2)
  have hB1 : Below w.heap.size w w1 := (Below.refl _ _).grown hgrow1 (Nat.le_refl _) (fun j hj => by cases hj)
  rw [show (madeCells (Value.int .u8 0).cells (Q * 1)).toList = List.replicate (Q * 1) (Value.int .u8 0) from toList_madeCells_one _ _, Nat.mul_one] at hown1
  have hR1 : RowT w1 w.heap.size 5 ((List.replicate 0 x).map byteV ++ List.replicate (Q - 0) (byteV 0)) := by
    show RowT w1 w.heap.size 5 (List.replicate (Q - 0) (byteV 0))
    rw [Nat.sub_zero]
    exact own_rowS hown1
  clear hown1 hgrow1
  go_loopw [6] (fun s6 wr => ∃ k : Nat, k ≤ Q ∧ s6 = .int .i64 (k : Int) ∧ RowT wr w.heap.size 5 ((List.replicate k x).map byteV ++ List.replicate (Q - k) (byteV 0)) ∧ Below w.heap.size w wr) (fun s6 _ => Q - (intOf s6).toNat)
  case atStart => exact ⟨0, Nat.zero_le _, rfl, hR1, hB1⟩
  case round =>
    clear hR1 hB1
    obtain ⟨k, hk, rfl, hR, hB⟩ := hrel
    by_cases hlt : k < Q
    · have c0 : wr.cell? ⟨w.heap.size, k, none⟩ = some (byteV 0) := hR.cell_ (by
        rw [List.getElem?_append_right (by simp), List.getElem?_replicate]
        simp
        omega)
      have f0 := hR.free k
      have k0 : (0 : Int) ≤ (k : Int) := by omega
      have k1 : (k : Int) < (Q : Int) := by omega
      have k2 : (k : Int) ≤ 1000 := by omega
      have hs := hR.set_ (i := k) (by simp; omega) (byteV x)
      have e : (((List.replicate k x).map byteV ++ List.replicate (Q - k) (byteV 0)).set k (byteV x)) = ((List.replicate (k + 1) x).map byteV ++ List.replicate (Q - (k + 1)) (byteV 0)) := by
        have h1 : Q - k = (Q - (k + 1)) + 1 := by omega
        rw [h1, List.replicate_succ, List.set_append_right _ _ (by simp)]
        simp only [List.length_map, List.length_replicate, Nat.sub_self, List.set_cons_zero]
        rw [show List.replicate (k + 1) x = List.replicate k x ++ [x] from List.replicate_succ', List.map_append, List.append_assoc]
        rfl
      rw [e] at hs
      have HS := Lib.hid hs
      clear hs e
      unfold byteV at c0
      go_wp2_with fail
      go_roundw
      case rel => exact ⟨k + 1, by omega, by go_num, HS.out, hB.setCell (Nat.le_refl _) _⟩
      case measure => simp [intOf]; omega
    · have hkQ : k = Q := by omega
      subst hkQ
      rw [Nat.sub_self, List.replicate_zero, List.append_nil] at hR
      have HR := Lib.hid hR
      clear hR
      go_wp2_with fail
      go_ret
      exact ⟨⟨_, rfl, HR.out, Nat.le_refl _⟩, hB⟩
theorem turn_any (m gB gN gW gD L : Nat) (Af : Option Addr) (nf cf : Nat) (a b c d e : Int) (fs : List Flt) (n : Int) (w : World) (s : ChS) (hC : RefW w m gB gN gW gD L Af nf cf a b c d e fs s) (hb : s.Bnd n) (hn : n ≤ 1000000000) (hw : s.Wt) : Calls Try.prog 61 #[.pointer (some ⟨m, 0, none⟩)] w fun e' w' => e' = .returned (.bool s.cutB) ∧ RefW w' m gB gN gW gD L Af nf cf a b c d e fs s.tick ∧ Tch (fun g => g = m) w w' := by
  obtain ⟨o0, o1, c0, c1, -, -⟩ := hb
  obtain ⟨w0, w1⟩ := hw
  obtain ⟨HC⟩ : Nonempty (Hid (RefW w m gB gN gW gD L Af nf cf a b c d e fs s)) := ⟨Lib.hid hC⟩
  obtain ⟨⟨cB, NP, NB, RW, hRW, hNP, hNB, hcB, hB, P, hPl, rB, hP⟩, rN, rW, rD, rF, hne, hge, l1, l2, l3, l4⟩ := hC
  have H1 := Lib.hid hNP
  have H2 := Lib.hid hNB
  have H3 := Lib.hid hcB
  clear hNP hNB hcB hRW rB hP rN rW rD rF hne hge l1 l2 l3 l4 hPl P
  rcases (by cases s.armed <;> simp : s.armed = false ∨ s.armed = true) with ha | ha
  · have hcut : s.cutB = false := by simp [ChS.cutB, ha]
    have htick : s.tick = { s with ops := s.ops + 1 } := by simp [ChS.tick, hcut]
    have hz : s.wait = 0 := by simp [ChS.wait, ha]
    have hz2 : ({ s with ops := s.ops + 1 } : ChS).wait = 0 := by simp [ChS.wait, ha]
    rw [hcut, htick]
    rw [hz] at hB
    have HZ := Lib.hid hz2
    have y10 := hB.cell_ 10; have y11 := hB.cell_ 11; have y12 := hB.cell_ 12; have y13 := hB.cell_ 13; simp at y10 y11 y12 y13
    have fm := hB.free
    clear ha hcut htick w0 w1 hz hz2
    have Q1 := hB.set_ 10 (.int .i64 (s.ops + 1))
    simp at Q1
    have k1_10 := Q1.cell_ 10; have k1_11 := Q1.cell_ 11; have k1_12 := Q1.cell_ 12; have k1_13 := Q1.cell_ 13; simp at k1_10 k1_11 k1_12 k1_13
    have fq1 := Q1.free
    have HQ := Lib.hid Q1
    clear hB Q1
    go_enter Try.func61, Try.ntmps61
    go_wp2_with fail
    go_ret
    refine ⟨rfl, HC.out.put { s with ops := s.ops + 1 } H1.out H2.out H3.out ?_ ?_ rfl rfl, ?_⟩
    · rw [HZ.out]; exact HQ.out
    · exact (Tch.setm w m 10 (.int .i64 (s.ops + 1))).like
    · exact (Tch.setm w m 10 (.int .i64 (s.ops + 1))).like
  have w0 := w0 ha
  have w1 := w1 ha
  by_cases ht : s.ops + 1 = s.turn
  · have hcut : s.cutB = true := by simp [ChS.cutB, ha, ht]
    have htick : s.tick = { s with ops := s.ops + 1, armed := false, on := false, cuts := s.cuts + 1 } := by simp [ChS.tick, hcut]
    have hz : s.wait = 1 := by simp [ChS.wait, ha]; omega
    rw [hcut, htick]
    rw [hz] at hB
    have y10 := hB.cell_ 10; have y11 := hB.cell_ 11; have y12 := hB.cell_ 12; have y13 := hB.cell_ 13; simp at y10 y11 y12 y13
    have fm := hB.free
    clear ha hcut htick w0 w1 hz ht
    have Q1 := hB.set_ 10 (.int .i64 (s.ops + 1))
    simp at Q1
    have k1_10 := Q1.cell_ 10; have k1_11 := Q1.cell_ 11; have k1_12 := Q1.cell_ 12; have k1_13 := Q1.cell_ 13; simp at k1_10 k1_11 k1_12 k1_13
    have fq1 := Q1.free
    have Q2 := Q1.set_ 13 (.int .i64 0)
    simp at Q2
    have k2_10 := Q2.cell_ 10; have k2_11 := Q2.cell_ 11; have k2_12 := Q2.cell_ 12; have k2_13 := Q2.cell_ 13; simp at k2_10 k2_11 k2_12 k2_13
    have fq2 := Q2.free
    have Q3 := Q2.set_ 12 (.bool true)
    simp at Q3
    have k3_10 := Q3.cell_ 10; have k3_11 := Q3.cell_ 11; have k3_12 := Q3.cell_ 12; have k3_13 := Q3.cell_ 13; simp at k3_10 k3_11 k3_12 k3_13
    have fq3 := Q3.free
    have Q4 := Q3.set_ 11 (.int .i64 (s.cuts + 1))
    simp at Q4
    have k4_10 := Q4.cell_ 10; have k4_11 := Q4.cell_ 11; have k4_12 := Q4.cell_ 12; have k4_13 := Q4.cell_ 13; simp at k4_10 k4_11 k4_12 k4_13
    have fq4 := Q4.free
    have HQ := Lib.hid Q4
    clear hB Q1 Q2 Q3 Q4
    go_enter Try.func61, Try.ntmps61
    go_wp2_with fail
    go_ret
    refine ⟨rfl, HC.out.put { s with ops := s.ops + 1, armed := false, on := false, cuts := s.cuts + 1 } H1.out H2.out H3.out ?_ ?_ rfl rfl, ?_⟩
    · exact HQ.out
    · exact ((((Tch.setm w m 10 (.int .i64 (s.ops + 1))).trans (Tch.setm _ m 13 (.int .i64 0))).trans (Tch.setm _ m 12 (.bool true))).trans (Tch.setm _ m 11 (.int .i64 (s.cuts + 1)))).like
    · exact ((((Tch.setm w m 10 (.int .i64 (s.ops + 1))).trans (Tch.setm _ m 13 (.int .i64 0))).trans (Tch.setm _ m 12 (.bool true))).trans (Tch.setm _ m 11 (.int .i64 (s.cuts + 1)))).like
  · have hcut : s.cutB = false := by simp [ChS.cutB, ha, ht]
    have htick : s.tick = { s with ops := s.ops + 1 } := by simp [ChS.tick, hcut]
    obtain ⟨z, hz⟩ : ∃ z, s.wait = z := ⟨_, rfl⟩
    have hze : z = s.turn - s.ops := by rw [← hz]; simp [ChS.wait, ha]
    have hz2 : ({ s with ops := s.ops + 1 } : ChS).wait = z - 1 := by simp [ChS.wait, ha]; omega
    have z1 : 2 ≤ z := by omega
    have z2 : z ≤ 4000000000 := by omega
    have z3 : 0 < z - 1 := by omega
    have z4 : ¬ z = 0 := by omega
    rw [hcut, htick]
    rw [hz] at hB
    have HZ := Lib.hid hz2
    have y10 := hB.cell_ 10; have y11 := hB.cell_ 11; have y12 := hB.cell_ 12; have y13 := hB.cell_ 13; simp at y10 y11 y12 y13
    have fm := hB.free
    clear ha hcut htick w0 w1 hz hz2 ht hze
    have Q1 := hB.set_ 10 (.int .i64 (s.ops + 1))
    simp at Q1
    have k1_10 := Q1.cell_ 10; have k1_11 := Q1.cell_ 11; have k1_12 := Q1.cell_ 12; have k1_13 := Q1.cell_ 13; simp at k1_10 k1_11 k1_12 k1_13
    have fq1 := Q1.free
    have Q2 := Q1.set_ 13 (.int .i64 (z - 1))
    simp at Q2
    have k2_10 := Q2.cell_ 10; have k2_11 := Q2.cell_ 11; have k2_12 := Q2.cell_ 12; have k2_13 := Q2.cell_ 13; simp at k2_10 k2_11 k2_12 k2_13
    have fq2 := Q2.free
    have HQ := Lib.hid Q2
    clear hB Q1 Q2
    go_enter Try.func61, Try.ntmps61
    go_wp2_with fail
    go_ret
    refine ⟨rfl, HC.out.put { s with ops := s.ops + 1 } H1.out H2.out H3.out ?_ ?_ rfl rfl, ?_⟩
    · rw [HZ.out]; exact HQ.out
    · exact ((Tch.setm w m 10 (.int .i64 (s.ops + 1))).trans (Tch.setm _ m 13 (.int .i64 (z - 1)))).like
    · exact ((Tch.setm w m 10 (.int .i64 (s.ops + 1))).trans (Tch.setm _ m 13 (.int .i64 (z - 1)))).like
end Go.Proofs.Ytcpniplfkillbaa
namespace Go.Proofs.Ytcpniplfkillbaa
open Go.ChangeShapes Go.WideShapes Go.ChangeAt Go.RowKit
theorem rarm_off (m gB gN gW gD L : Nat) (Af : Option Addr) (nf cf : Nat) (a b c d e : Int) (fs : List Flt) (xo xb : Int) (xf : Nat) (w : World) (s : ChS) (hC : RefW w m gB gN gW gD L Af nf cf a b c d e fs s) (ho : s.on = false) : Calls Try.prog 15 #[.pointer (some ⟨m, 0, none⟩), .agg #[.int .i64 xo, .int .i64 xb, .int .u8 (xf : Nat)]] w fun e' w' => e' = .returned (.int .i64 9) ∧ Below w.heap.size w w' := by
  obtain ⟨HC⟩ : Nonempty (Hid (RefW w m gB gN gW gD L Af nf cf a b c d e fs s)) := ⟨Lib.hid hC⟩
  obtain ⟨⟨cB, NP, NB, RW, hRW, hNP, hNB, hcB, hB, P, hPl, rB, hP⟩, rN, rW, rD, rF, hne, hge, l1, l2, l3, l4⟩ := hC
  have H1 := Lib.hid hNP
  have H2 := Lib.hid hNB
  have H3 := Lib.hid hcB
  clear hNP hNB hcB hRW rB hP rN rW rD rF hne hge l1 l2 l3 l4 hPl P
  rw [show (!s.on) = true by rw [ho]; rfl] at hB
  have hB := hB.alloc_ (.cells #[.int .i64 xo, .int .i64 xb, .int .u8 (xf : Nat)] 48)
  have y12 := hB.cell_ 12; simp at y12
  clear hB ho
  go_enter Try.func15, Try.ntmps15
  go_wp2_with fail
  go_ret
  exact ⟨rfl, (Below.refl _ _).alloc (Nat.le_refl _) _⟩
theorem rarm_arg (m gB gN gW gD L : Nat) (Af : Option Addr) (nf cf : Nat) (a b c d e : Int) (fs : List Flt) (xo xb : Int) (xf : Nat) (w : World) (s : ChS) (hC : RefW w m gB gN gW gD L Af nf cf a b c d e fs s) (ho : s.on = true) (hx : xo < 1 ∨ (1 ≤ xo ∧ 1073741824 < xo) ∨ (1 ≤ xo ∧ xo ≤ 1073741824 ∧ xb < 0) ∨ (1 ≤ xo ∧ xo ≤ 1073741824 ∧ 0 ≤ xb ∧ 1073741824 < xb)) : Calls Try.prog 15 #[.pointer (some ⟨m, 0, none⟩), .agg #[.int .i64 xo, .int .i64 xb, .int .u8 (xf : Nat)]] w fun e' w' => e' = .returned (.int .i64 2) ∧ Below w.heap.size w w' := by
  obtain ⟨HC⟩ : Nonempty (Hid (RefW w m gB gN gW gD L Af nf cf a b c d e fs s)) := ⟨Lib.hid hC⟩
  obtain ⟨⟨cB, NP, NB, RW, hRW, hNP, hNB, hcB, hB, P, hPl, rB, hP⟩, rN, rW, rD, rF, hne, hge, l1, l2, l3, l4⟩ := hC
  have H1 := Lib.hid hNP
  have H2 := Lib.hid hNB
  have H3 := Lib.hid hcB
  clear hNP hNB hcB hRW rB hP rN rW rD rF hne hge l1 l2 l3 l4 hPl P
  rw [show (!s.on) = false by rw [ho]; rfl] at hB
  have hB := hB.alloc_ (.cells #[.int .i64 xo, .int .i64 xb, .int .u8 (xf : Nat)] 48)
  have y12 := hB.cell_ 12; simp at y12
  clear hB ho
  rcases hx with h1 | ⟨h1, h2⟩ | ⟨h1, h2, h3⟩ | ⟨h1, h2, h3, h4⟩
  all_goals
    go_enter Try.func15, Try.ntmps15
    go_wp2_with fail
    go_ret
    exact ⟨rfl, (Below.refl _ _).alloc (Nat.le_refl _) _⟩
theorem rarm_yes (m gB gN gW gD L : Nat) (Af : Option Addr) (nf cf : Nat) (a b c d e : Int) (fs : List Flt) (xo xb : Int) (xf : Nat) (w : World) (s : ChS) (hC : RefW w m gB gN gW gD L Af nf cf a b c d e fs s) (ho : s.on = true) (x1 : 1 ≤ xo) (x2 : xo ≤ 1073741824) (x3 : 0 ≤ xb) (x4 : xb ≤ 1073741824) : Calls Try.prog 15 #[.pointer (some ⟨m, 0, none⟩), .agg #[.int .i64 xo, .int .i64 xb, .int .u8 (xf : Nat)]] w fun e' w' => e' = .returned (.int .i64 0) ∧ RefW w' m gB gN gW gD L Af nf cf a b c d e fs { s with armed := true, turn := s.ops + xo, cop := xo, cby := xb, fill := xf } ∧ Tch (fun g => g = m) w w' := by
  have HB0 : Below w.heap.size w (w.alloc (.cells #[.int .i64 xo, .int .i64 xb, .int .u8 (xf : Nat)] 48)) := (Below.refl _ _).alloc (Nat.le_refl _) _
  have hmw := hC.lt
  have hC := hC.below HB0
  have G1 : Blk (w.alloc (.cells #[.int .i64 xo, .int .i64 xb, .int .u8 (xf : Nat)] 48)) w.heap.size 48 #[.int .i64 xo, .int .i64 xb, .int .u8 (xf : Nat)] := Blk.new_ _ _ _
  obtain ⟨w0, hw0⟩ : ∃ W : World, W = w.alloc (.cells #[.int .i64 xo, .int .i64 xb, .int .u8 (xf : Nat)] 48) := ⟨_, rfl⟩
  obtain ⟨HC⟩ : Nonempty (Hid (RefW w0 m gB gN gW gD L Af nf cf a b c d e fs s)) := ⟨Lib.hid (by rw [hw0]; exact hC)⟩
  obtain ⟨⟨cB, NP, NB, RW, hRW, hNP, hNB, hcB, hB, P, hPl, rB, hP⟩, rN, rW, rD, rF, hne, hge, l1, l2, l3, l4⟩ := hC
  have H1 := Lib.hid hNP
  have H2 := Lib.hid hNB
  have H3 := Lib.hid hcB
  clear hNP hNB hcB hRW rB hP rN rW rD rF hne hge l1 l2 l3 l4 hPl P
  have hz : ({ s with armed := true, turn := s.ops + xo, cop := xo, cby := xb, fill := xf } : ChS).wait = xo := by simp [ChS.wait]; omega
  have hoo : (!({ s with armed := true, turn := s.ops + xo, cop := xo, cby := xb, fill := xf } : ChS).on) = false := by rw [show ({ s with armed := true, turn := s.ops + xo, cop := xo, cby := xb, fill := xf } : ChS).on = s.on from rfl, ho]; rfl
  rw [show (!s.on) = false by rw [ho]; rfl] at hB
  have HZ := Lib.hid hz
  have HO := Lib.hid hoo
  rw [← hw0] at hB G1 HB0
  have y12 := hB.cell_ 12; have y13 := hB.cell_ 13; have y14 := hB.cell_ 14; have y15 := hB.cell_ 15; have y16 := hB.cell_ 16; simp at y12 y13 y14 y15 y16
  have fm := hB.free
  have hne : w.heap.size ≠ m := by omega
  have g0 := G1.cell_ 0; have g1 := G1.cell_ 1; have g2 := G1.cell_ 2; simp at g0 g1 g2
  have Q1 := ((hB.set_ 14 (.int .i64 xo)).set_ 15 (.int .i64 xb)).set_ 16 (.int .u8 (xf : Nat))
  simp at Q1
  have fq1 := Q1.free
  have P1 := ((G1.far (p := ⟨m, 14, none⟩) hne (.int .i64 xo)).far (p := ⟨m, 15, none⟩) hne (.int .i64 xb)).far (p := ⟨m, 16, none⟩) hne (.int .u8 (xf : Nat))
  have p0 := P1.cell_ 0; have p1 := P1.cell_ 1; have p2 := P1.cell_ 2; simp at p0 p1 p2
  have P2 := P1.far (p := ⟨m, 13, none⟩) hne (.int .i64 xo)
  have r0 := P2.cell_ 0; have r1 := P2.cell_ 1; have r2 := P2.cell_ 2; simp at r0 r1 r2
  have Q3 := Q1.set_ 13 (.int .i64 xo)
  simp at Q3
  have HQ := Lib.hid Q3
  have d1 : decide (xo < 1) = false := decide_eq_false (by omega)
  have d2 : decide (1073741824 < xo) = false := decide_eq_false (by omega)
  have d3 : decide (xb < 0) = false := decide_eq_false (by omega)
  have d4 : decide (1073741824 < xb) = false := decide_eq_false (by omega)
  clear hB ho Q1 Q3 P1 P2 G1 hC x1 x2 x3 x4 hne hmw hz hoo
  go_enter Try.func15, Try.ntmps15
  go_upto_region 1 with fail
  rw [← hw0]
  clear hw0
  go_upto_region 5 with fail
  refine wp_region_noPanic ?_
  refine wp_region_held_drew (S := (fun w' => w'.cell? ⟨w.heap.size, 0, none⟩ = some (.int .i64 xo) ∧ w'.cell? ⟨w.heap.size, 1, none⟩ = some (.int .i64 xb) ∧ w'.cell? ⟨w.heap.size, 2, none⟩ = some (.int .u8 (xf : Nat)))) (by kernel_rfl) ?_ (fun hHeld => ?_)
  · (first | exact ⟨p0, p1, p2⟩ | exact ⟨r0, r1, r2⟩ | exact ⟨g0, g1, g2⟩ | assumption)
  refine tk 0 ⟨some 27, .move (.tmp 0), 30, "ref.go:150", #[], none⟩ ?_; try simp only [Act.put, pz1, pz2, pz3]
  refine tk 1 ⟨some 28, .move (.tmp 0), 30, "ref.go:150", #[{ on := 7, ground := Ground.gcOnly Departure.lateStores }], none⟩ ?_; try simp only [Act.put, pz1, pz2, pz3]
  refine tk 2 ⟨some 29, .load 48 (.tmp 3), 48, "ref.go:150", #[], none⟩ ?_; try simp only [Act.put, pz1, pz2, pz3]
  refine tk 3 ⟨some 30, .fieldAddr 48 (.tmp 3) 0, 0, "ref.go:150", #[{ on := 7, ground := Ground.gcOnly Departure.lateStores }], none⟩ ?_; try simp only [Act.put, pz1, pz2, pz3]
  refine tk 4 ⟨some 31, .load 3 (.tmp 30), 3, "ref.go:150", #[⟨3, .data⟩, { on := 7, ground := Ground.gcOnly Departure.lateStores }], none⟩ ?_; try simp only [Act.put, pz1, pz2, pz3]
  refine tk 5 ⟨some 32, .nilCheck (.tmp 27), 0, "ref.go:150", #[⟨0, .data⟩, ⟨0, .phase⟩, { on := 1, ground := Ground.textOnly Departure.lateStores }, ⟨2, .phase⟩, { on := 3, ground := Ground.textOnly Departure.lateStores }, { on := 4, ground := Ground.textOnly Departure.lateStores }], none⟩ ?_; try simp only [Act.put, pz1, pz2, pz3]
  refine tk 6 ⟨some 33, .fieldAddr 94 (.tmp 32) 10, 0, "ref.go:150", #[⟨5, .data⟩, ⟨0, .phase⟩, { on := 1, ground := Ground.textOnly Departure.lateStores }, ⟨2, .phase⟩, { on := 3, ground := Ground.textOnly Departure.lateStores }, { on := 4, ground := Ground.textOnly Departure.lateStores }], none⟩ ?_; try simp only [Act.put, pz1, pz2, pz3]
  refine wpAnyH_ready (rs := [7]) (by kernel_rfl) (by simp) ?_
  refine AllReadyH.cons (o := ⟨none, .store 48 (.tmp 33) (.tmp 29), 0, "ref.go:150", #[⟨6, .data⟩, ⟨2, .data⟩, ⟨0, .phase⟩, { on := 1, ground := Ground.textOnly Departure.lateStores }, ⟨2, .phase⟩, { on := 3, ground := Ground.textOnly Departure.lateStores }, { on := 4, ground := Ground.textOnly Departure.lateStores }], none⟩) rfl (fun K hK => ?_) AllReadyH.nil
  go_simp
  skip
  refine hK.out _ _ ?_ (fun hNew => ?_)
  · (first | exact ⟨p0, p1, p2⟩ | exact ⟨r0, r1, r2⟩ | exact ⟨g0, g1, g2⟩ | assumption)
  clear hK K hHeld
  have hHeld := hNew
  clear hNew
  try simp only [Act.put, pz1, pz2, pz3]
  refine tk 8 ⟨some 34, .nilCheck (.tmp 28), 0, "ref.go:150", #[⟨1, .data⟩, ⟨0, .phase⟩, ⟨1, .phase⟩, ⟨2, .phase⟩, ⟨3, .phase⟩, ⟨4, .phase⟩, ⟨5, .phase⟩, ⟨6, .phase⟩, ⟨7, .phase⟩], none⟩ ?_; try simp only [Act.put, pz1, pz2, pz3]
  refine tk 9 ⟨some 35, .fieldAddr 94 (.tmp 34) 9, 0, "ref.go:150", #[⟨8, .data⟩, ⟨0, .phase⟩, ⟨1, .phase⟩, ⟨2, .phase⟩, ⟨3, .phase⟩, ⟨4, .phase⟩, ⟨5, .phase⟩, ⟨6, .phase⟩, ⟨7, .phase⟩], none⟩ ?_; try simp only [Act.put, pz1, pz2, pz3]
  refine wpAnyH_ready (rs := [10]) (by kernel_rfl) (by simp) ?_
  refine AllReadyH.cons (o := ⟨none, .store 3 (.tmp 35) (.tmp 31), 0, "ref.go:150", #[⟨9, .data⟩, ⟨4, .data⟩, ⟨7, .chain⟩, ⟨0, .phase⟩, ⟨1, .phase⟩, ⟨2, .phase⟩, ⟨3, .phase⟩, ⟨4, .phase⟩, ⟨5, .phase⟩, ⟨6, .phase⟩, ⟨7, .phase⟩], none⟩) rfl (fun K hK => ?_) AllReadyH.nil
  go_simp
  skip
  refine hK.out _ _ ?_ (fun hNew => ?_)
  · (first | exact ⟨p0, p1, p2⟩ | exact ⟨r0, r1, r2⟩ | exact ⟨g0, g1, g2⟩ | assumption)
  clear hK K hHeld
  have hHeld := hNew
  clear hNew
  try simp only [Act.put, pz1, pz2, pz3]
  refine wpAnyH_done (by kernel_rfl) ?_ _
  refine NoPanic.normal ?_
  go_wp2_with fail
  go_ret
  have HT : Tch (fun g => g = m) w0 _ := (((Tch.setm w0 m 14 (.int .i64 xo)).trans (Tch.setm _ m 15 (.int .i64 xb))).trans (Tch.setm _ m 16 (.int .u8 (xf : Nat)))).trans (Tch.setm _ m 13 (.int .i64 xo))
  have HCC := HC.out.put { s with armed := true, turn := s.ops + xo, cop := xo, cby := xb, fill := xf } H1.out H2.out H3.out (by rw [HZ.out, HO.out]; exact HQ.out) HT rfl rfl
  have HTT := (Tch.of_below HB0).trans HT
  exact ⟨rfl, HCC.like, HTT.like⟩
theorem rpfails_b (fs : List Flt) (A : Option Addr) (nf c : Nat) (b d : Int) (T : Bool) (w : World) (h : SlF w w.heap.size A fs) (hn : fs.length = nf) (n1 : fs.length ≤ 1000000) (ht : Hid (failsB fs b d = T)) :
    Calls Try.prog 62 #[.slice A nf c, .int .i64 b, .int .i64 d] w fun e w' => e = .returned (.bool T) ∧ Below w.heap.size w w' := by
  have := rFails_any fs A c b d w h n1
  rwa [ht.out, hn] at this
structure RefC (w : World) (m gB gN gW gD L : Nat) (Af : Option Addr) (nf cf : Nat) (a b c d e : Int) (fs : List Flt) (s : ChS) (NP NB RW cB : Nat) : Prop where
  y0 : w.cell? ⟨m, 0, none⟩ = some (.int .i64 a)
  y1 : w.cell? ⟨m, 1, none⟩ = some (.int .i64 b)
  y2 : w.cell? ⟨m, 2, none⟩ = some (.int .i64 c)
  y3 : w.cell? ⟨m, 3, none⟩ = some (.int .i64 d)
  y4 : w.cell? ⟨m, 4, none⟩ = some (.int .i64 e)
  y5 : w.cell? ⟨m, 5, none⟩ = some (.slice Af nf cf)
  y6 : w.cell? ⟨m, 6, none⟩ = some (.slice (some ⟨gB, 0, none⟩) NP cB)
  y7 : w.cell? ⟨m, 7, none⟩ = some (.slice (some ⟨gN, 0, none⟩) NB NB)
  y8 : w.cell? ⟨m, 8, none⟩ = some (.slice (some ⟨gW, 0, none⟩) NB NB)
  y9 : w.cell? ⟨m, 9, none⟩ = some (.slice (some ⟨gD, 0, none⟩) NB NB)
  y10 : w.cell? ⟨m, 10, none⟩ = some (.int .i64 s.ops)
  y11 : w.cell? ⟨m, 11, none⟩ = some (.int .i64 s.cuts)
  y12 : w.cell? ⟨m, 12, none⟩ = some (.bool (!s.on))
  y13 : w.cell? ⟨m, 13, none⟩ = some (.int .i64 s.wait)
  y14 : w.cell? ⟨m, 14, none⟩ = some (.int .i64 s.cop)
  y15 : w.cell? ⟨m, 15, none⟩ = some (.int .i64 s.cby)
  y16 : w.cell? ⟨m, 16, none⟩ = some (.int .u8 (s.fill : Nat))
  fm : ∀ i, w.frozen? ⟨m, i, none⟩ = false
  hRW : Hid ((RW : Int) = c + 16)
  hNP : Hid ((NP : Int) = a * b)
  hNB : Hid ((NB : Int) = a)
  hcB : Hid (NP ≤ cB)
  n0 : ∀ k, k < NB → w.cell? ⟨gN, k, none⟩ = some (.int .i64 (s.k (k : Int) 0))
  n1 : ∀ k, k < NB → w.cell? ⟨gW, k, none⟩ = some (.int .i64 (s.k (k : Int) 1))
  n2 : ∀ k, k < NB → w.cell? ⟨gD, k, none⟩ = some (.int .i64 (s.k (k : Int) 2))
theorem RefW.cells {w : World} {m gB gN gW gD L : Nat} {Af : Option Addr} {nf cf : Nat} {a b c d e : Int} {fs : List Flt} {s : ChS} (hC : RefW w m gB gN gW gD L Af nf cf a b c d e fs s) : ∃ NP NB RW cB, RefC w m gB gN gW gD L Af nf cf a b c d e fs s NP NB RW cB := by
  obtain ⟨⟨cB, NP, NB, RW, hRW, hNP, hNB, hcB, hB, P, hPl, rB, hP⟩, rN, rW, rD, rF, hne, hge, l1, l2, l3, l4⟩ := hC
  have hk : ∀ (j k : Nat), s.k (k : Int) j = s.K.getD (3 * k + j) 0 := fun j k => by unfold ChS.k; rw [Int.toNat_natCast]
  refine ⟨NP, NB, RW, cB, hB.cell_ 0, hB.cell_ 1, hB.cell_ 2, hB.cell_ 3, hB.cell_ 4, hB.cell_ 5, hB.cell_ 6, hB.cell_ 7, hB.cell_ 8, hB.cell_ 9, hB.cell_ 10, hB.cell_ 11, hB.cell_ 12, hB.cell_ 13, hB.cell_ 14, hB.cell_ 15, hB.cell_ 16, hB.free, Lib.hid hRW, Lib.hid hNP, Lib.hid hNB, Lib.hid hcB, fun k h => ?_, fun k h => ?_, fun k h => ?_⟩
  · rw [hk]; exact rN.cell_ (kcol_at _ _ _ _ (by omega))
  · rw [hk]; exact rW.cell_ (kcol_at _ _ _ _ (by omega))
  · rw [hk]; exact rD.cell_ (kcol_at _ _ _ _ (by omega))
end Go.Proofs.Ytcpniplfkillbaa
namespace Go.Proofs.Ytcpniplfkillbaa
open Go.ChangeShapes Go.WideShapes Go.ChangeAt Go.RowKit
theorem rRaw_any (a b c d e : Int) (w : World) :
    Calls Try.prog 60 #[.agg #[.int .i64 a, .int .i64 b, .int .i64 c, .int .i64 d, .int .i64 e]] w fun e' w' => e' = .returned (.int .i64 (ifMay a b c d e (c + 16))) ∧ Below w.heap.size w w' := by
  cases hm : mayB a b c d e
  · rw [ifMay_no _ hm]
    have Hm := Lib.hid hm
    clear hm
    go_enter Try.func60, Try.ntmps60
    go_wp2_with (go_at_call 42; refine (rmay_any _ _ _ _ _ _).mono ?_; rw [Hm.out]; rintro e' w1 ⟨rfl, hb1⟩)
    go_ret
    exact ⟨rfl, below1 hb1⟩
  · rw [ifMay_yes _ hm]
    obtain ⟨k1, k2, k3, k4, k7, k8, k5, k6, _⟩ := may_bd hm
    have Hm := Lib.hid hm
    clear hm
    go_enter Try.func60, Try.ntmps60
    go_wp2_with (go_at_call 42; refine (rmay_any _ _ _ _ _ _).mono ?_; rw [Hm.out]; rintro e' w1 ⟨rfl, hb1⟩; obtain ⟨hc1, hf1⟩ := bcell hb1)
    go_ret
    exact ⟨rfl, below1 hb1⟩
theorem rthr_b (a b c d e x y : Int) (T : Bool) (w : World) (hm : Hid (mayB a b c d e = true)) (ht : Hid (thereB a b x y = T)) :
    Calls Try.prog 43 #[.agg #[.int .i64 a, .int .i64 b, .int .i64 c, .int .i64 d, .int .i64 e], .agg #[.int .i64 x, .int .i64 y]] w fun e' w' => e' = .returned (.bool T) ∧ Below w.heap.size w w' := by
  have q := rThere_any a b c d e x y w
  rwa [hm.out, ht.out, Bool.true_and] at q
theorem rnum_c (a b c d e x y : Int) (n : Nat) (w : World) (hm : Hid (mayB a b c d e = true)) (hn : Hid (numberI a b x y = (n : Int))) :
    Calls Try.prog 23 #[.agg #[.int .i64 a, .int .i64 b, .int .i64 c, .int .i64 d, .int .i64 e], .agg #[.int .i64 x, .int .i64 y]] w fun e' w' => e' = .returned (.int .i64 (n : Int)) ∧ Below w.heap.size w w' := by
  have q := rNumber_any a b c d e x y w
  rwa [ifMay_yes _ hm.out, hn.out] at q
theorem rraw_b (a b c d e : Int) (RW : Nat) (w : World) (hm : Hid (mayB a b c d e = true)) (hr : Hid ((RW : Int) = c + 16)) :
    Calls Try.prog 60 #[.agg #[.int .i64 a, .int .i64 b, .int .i64 c, .int .i64 d, .int .i64 e]] w fun e' w' => e' = .returned (.int .i64 (RW : Int)) ∧ Below w.heap.size w w' := by
  have q := rRaw_any a b c d e w
  rwa [ifMay_yes _ hm.out, ← hr.out] at q
theorem cellOf {w w' : World} (h : Below w.heap.size w w') {p : Addr} {v : Value} (hc : w.cell? p = some v) : w'.cell? p = some v := (h.cell (World.block_lt_of_cell? w p hc)).trans hc
theorem RefC.below {w w' : World} {m gB gN gW gD L : Nat} {Af : Option Addr} {nf cf : Nat} {a b c d e : Int} {fs : List Flt} {s : ChS} {NP NB RW cB : Nat} (h : RefC w m gB gN gW gD L Af nf cf a b c d e fs s NP NB RW cB) (hb : Below w.heap.size w w') : RefC w' m gB gN gW gD L Af nf cf a b c d e fs s NP NB RW cB :=
  ⟨cellOf hb h.y0, cellOf hb h.y1, cellOf hb h.y2, cellOf hb h.y3, cellOf hb h.y4, cellOf hb h.y5, cellOf hb h.y6, cellOf hb h.y7, cellOf hb h.y8, cellOf hb h.y9, cellOf hb h.y10, cellOf hb h.y11, cellOf hb h.y12, cellOf hb h.y13, cellOf hb h.y14, cellOf hb h.y15, cellOf hb h.y16, fun i => (hb.frozen (p := ⟨m, i, none⟩) (show m < w.heap.size from World.block_lt_of_cell? w ⟨m, 0, none⟩ h.y0)).trans (h.fm i), h.hRW, h.hNP, h.hNB, h.hcB, fun k hk => cellOf hb (h.n0 k hk), fun k hk => cellOf hb (h.n1 k hk), fun k hk => cellOf hb (h.n2 k hk)⟩
structure PgR (w : World) (gB N RW : Nat) (p c : Nat) (bs : List Nat) : Prop where
  cN : w.cell? ⟨gB, N, none⟩ = some (.slice (some ⟨p, 0, none⟩) RW c)
  rd : Rd w (some ⟨p, 0, none⟩) RW 1 (bs.map byteV)
  lt : p < w.heap.size
  cap : RW ≤ c
  cap2 : c ≤ maxLen
theorem PgR.below {w w' : World} {gB N RW p c : Nat} {bs : List Nat} (h : PgR w gB N RW p c bs) (hb : Below w.heap.size w w') : PgR w' gB N RW p c bs :=
  ⟨cellOf hb h.cN, h.rd.keep (fun b o e j => by cases e; exact hb.cell h.lt), by have := h.lt; have := hb.size; omega, h.cap, h.cap2⟩
theorem RefW.page {w : World} {m gB gN gW gD L : Nat} {Af : Option Addr} {nf cf : Nat} {a b c d e : Int} {fs : List Flt} {s : ChS} (hC : RefW w m gB gN gW gD L Af nf cf a b c d e fs s) {N RW : Nat} (hr : (RW : Int) = c + 16) (hN : (N : Int) < a * b) (hf : N * RW + RW ≤ s.X.length) : ∃ p cp, PgR w gB N RW p cp (s.pageOf N RW) := by
  obtain ⟨⟨cB, NP, NB, RW', hRW, hNP, hNB, hcB, hB, P, hPl, rB, hP⟩, rN, rW, rD, rF, hne, hge, l1, l2, l3, l4⟩ := hC
  have e : RW' = RW := by omega
  subst e
  have hlt : N < P.length := by omega
  obtain ⟨p, hp⟩ : ∃ p, P[N]? = some p := ⟨P[N], by simp [hlt]⟩
  have hg := hP N p hp
  refine ⟨p.1, p.2, rB.cell_ (by rw [List.getElem?_map, hp]; rfl), ⟨by simp [ChS.pageOf]; omega, Or.inr ⟨p.1, 0, rfl, fun j u hu => ?_⟩⟩, hg.lt, hg.cap, hg.cap2⟩
  rw [List.getElem?_map] at hu
  unfold ChS.pageOf at hu
  rw [List.getElem?_take] at hu
  split at hu
  · next hj =>
    rw [List.getElem?_drop] at hu
    rw [Nat.zero_add, hg.cell j hj, List.getD_eq_getElem?_getD]
    rw [List.getElem?_eq_getElem (by omega)] at hu ⊢
    exact hu
  · cases hu
theorem rpage_ok {w : World} {m gB gN gW gD L : Nat} {Af : Option Addr} {nf cf : Nat} {a b c d e : Int} {fs : List Flt} {s : ChS} (hC : RefW w m gB gN gW gD L Af nf cf a b c d e fs s) {k l : Nat} (hk : (k : Int) < a) (hl : (l : Int) < b) : ∃ n RW : Nat, numberI a b (k : Int) (l : Int) = (n : Int) ∧ (RW : Int) = c + 16 ∧ n * RW + RW ≤ s.X.length ∧ 40 ≤ RW ∧ RW ≤ 80 ∧ n < 200 ∧ (n : Int) = (k : Int) * b + (l : Int) ∧ (n : Int) < a * b := by
  obtain ⟨hm, -, -⟩ := planMay_bd hC.may
  obtain ⟨g1, g2, g3, g4, g5, g6, -⟩ := may_bd hm
  have hth : thereB a b (k : Int) (l : Int) = true := by
    unfold thereB withinB
    simp
    omega
  have h1 : (k : Int) * b ≤ (a - 1) * b := Int.mul_le_mul_of_nonneg_right (by omega) (by omega)
  rw [Int.sub_mul] at h1
  have h0 : 0 ≤ (k : Int) * b := Int.mul_nonneg (by omega) (by omega)
  have h2 : a * b ≤ 20 * 8 := Int.mul_le_mul g2 g4 (by omega) (by omega)
  have h3 : ((k : Int) * b + (l : Int) + 1) * (c + 16) ≤ a * b * (c + 16) := Int.mul_le_mul_of_nonneg_right (by omega) (by omega)
  obtain ⟨n, hn⟩ : ∃ n : Nat, (n : Int) = (k : Int) * b + (l : Int) := ⟨((k : Int) * b + (l : Int)).toNat, by omega⟩
  obtain ⟨RW, hR⟩ : ∃ RW : Nat, (RW : Int) = c + 16 := ⟨(c + 16).toNat, by omega⟩
  refine ⟨n, RW, by rw [number_yes hth]; exact hn.symm, hR, ?_, by omega, by omega, by omega, hn, by omega⟩
  rw [← hn, ← hR, Int.add_mul, Int.one_mul] at h3
  have h4 : ((n * RW + RW : Nat) : Int) = (n : Int) * (RW : Int) + (RW : Int) := by push_cast; rfl
  rw [hC.lenX, ← hR]
  omega
theorem rturn_b (m gB gN gW gD L : Nat) (Af : Option Addr) (nf cf : Nat) (a b c d e : Int) (fs : List Flt) (n : Int) (T : Bool) (w : World) (s : ChS) (hC : RefW w m gB gN gW gD L Af nf cf a b c d e fs s) (hb : s.Bnd n) (hn : n ≤ 1000000000) (hw : s.Wt) (hcu : Hid (s.cutB = T)) : Calls Try.prog 61 #[.pointer (some ⟨m, 0, none⟩)] w fun e' w' => e' = .returned (.bool T) ∧ RefW w' m gB gN gW gD L Af nf cf a b c d e fs s.tick ∧ Tch (fun g => g = m) w w' := by
  have := turn_any m gB gN gW gD L Af nf cf a b c d e fs n w s hC hb hn hw
  rwa [hcu.out] at this
theorem tch_r {m gB gN gW gD : Nat} {w w' : World} (h : Tch (fun g => g = m) w w') : Tch (rfB m gB gN gW gD) w w' := h.mono (fun g e => Or.inl e)
theorem rread_off (m gB gN gW gD L : Nat) (Af : Option Addr) (nf cf : Nat) (a b c d e : Int) (fs : List Flt) (x y : Int) (w : World) (s : ChS) (hC : RefW w m gB gN gW gD L Af nf cf a b c d e fs s) (ho : s.on = false) : Calls Try.prog 35 #[.pointer (some ⟨m, 0, none⟩), .agg #[.int .i64 x, .int .i64 y]] w fun e' w' => e' = .returned (.tuple #[.slice none 0 0, .int .i64 9]) ∧ Below w.heap.size w w' := by
  have HM := Lib.hid (planMay_bd hC.may).1
  have hmw := hC.lt
  have HB0 : Below w.heap.size w (w.alloc (.cells #[.int .i64 x, .int .i64 y] 27)) := (Below.refl _ _).alloc (Nat.le_refl _) _
  have G1 : Blk (w.alloc (.cells #[.int .i64 x, .int .i64 y] 27)) w.heap.size 27 #[.int .i64 x, .int .i64 y] := Blk.new_ _ _ _
  have z0 : (w.alloc (.cells #[.int .i64 x, .int .i64 y] 27)).cell? ⟨w.heap.size, 0, none⟩ = some (.int .i64 x) := G1.cell_ 0
  have z1 : (w.alloc (.cells #[.int .i64 x, .int .i64 y] 27)).cell? ⟨w.heap.size, 1, none⟩ = some (.int .i64 y) := G1.cell_ 1
  have hC := hC.below HB0
  obtain ⟨NP, NB, RWc, cB, HCC⟩ := hC.cells
  have y0 := HCC.y0; have y1 := HCC.y1; have y2 := HCC.y2; have y3 := HCC.y3; have y4 := HCC.y4; have y12 := HCC.y12
  rw [show (!s.on) = true by rw [ho]; rfl] at y12
  clear ho
  clear hC HCC G1 z0 z1
  go_enter Try.func35, Try.ntmps35
  go_wp2_with fail
  go_ret2
  exact ⟨rfl, HB0⟩
theorem rread_arg (m gB gN gW gD L : Nat) (Af : Option Addr) (nf cf : Nat) (a b c d e : Int) (fs : List Flt) (x y : Int) (w : World) (s : ChS) (hC : RefW w m gB gN gW gD L Af nf cf a b c d e fs s) (ho : s.on = true) (ht : Hid (thereB a b x y = false)) : Calls Try.prog 35 #[.pointer (some ⟨m, 0, none⟩), .agg #[.int .i64 x, .int .i64 y]] w fun e' w' => e' = .returned (.tuple #[.slice none 0 0, .int .i64 2]) ∧ Below w.heap.size w w' := by
  have HM := Lib.hid (planMay_bd hC.may).1
  have hmw := hC.lt
  have HB0 : Below w.heap.size w (w.alloc (.cells #[.int .i64 x, .int .i64 y] 27)) := (Below.refl _ _).alloc (Nat.le_refl _) _
  have G1 : Blk (w.alloc (.cells #[.int .i64 x, .int .i64 y] 27)) w.heap.size 27 #[.int .i64 x, .int .i64 y] := Blk.new_ _ _ _
  have z0 : (w.alloc (.cells #[.int .i64 x, .int .i64 y] 27)).cell? ⟨w.heap.size, 0, none⟩ = some (.int .i64 x) := G1.cell_ 0
  have z1 : (w.alloc (.cells #[.int .i64 x, .int .i64 y] 27)).cell? ⟨w.heap.size, 1, none⟩ = some (.int .i64 y) := G1.cell_ 1
  have hC := hC.below HB0
  obtain ⟨NP, NB, RWc, cB, HCC⟩ := hC.cells
  have y0 := HCC.y0; have y1 := HCC.y1; have y2 := HCC.y2; have y3 := HCC.y3; have y4 := HCC.y4; have y12 := HCC.y12
  have HO := Lib.hid ho
  rw [show (!s.on) = false by rw [ho]; rfl] at y12
  clear ho
  go_enter Try.func35, Try.ntmps35
  go_upto_region 3 with fail
  refine wp_region_noPanic ?_
  refine wp_region_held_drew (S := (fun w' => w'.cell? ⟨m, 0, none⟩ = some (.int .i64 a) ∧ w'.cell? ⟨m, 1, none⟩ = some (.int .i64 b) ∧ w'.cell? ⟨m, 2, none⟩ = some (.int .i64 c) ∧ w'.cell? ⟨m, 3, none⟩ = some (.int .i64 d) ∧ w'.cell? ⟨m, 4, none⟩ = some (.int .i64 e) ∧ w'.cell? ⟨w.heap.size, 0, none⟩ = some (.int .i64 x) ∧ w'.cell? ⟨w.heap.size, 1, none⟩ = some (.int .i64 y))) (by kernel_rfl) ?_ (fun hHeld => ?_)
  · (first | exact ⟨y0, y1, y2, y3, y4, z0, z1⟩ | assumption)
  refine tk 0 ⟨some 12, .move (.tmp 0), 30, "ref.go:66", #[], none⟩ ?_; try simp only [Act.put, pz1, pz2, pz3]
  refine tk 1 ⟨some 13, .nilCheck (.tmp 12), 0, "ref.go:66", #[⟨0, .data⟩], none⟩ ?_; try simp only [Act.put, pz1, pz2, pz3]
  refine tk 2 ⟨some 14, .fieldAddr 94 (.tmp 13) 0, 0, "ref.go:66", #[⟨1, .data⟩], none⟩ ?_; try simp only [Act.put, pz1, pz2, pz3]
  refine tk 3 ⟨some 15, .load 23 (.tmp 14), 23, "ref.go:66", #[⟨2, .data⟩], none⟩ ?_; try simp only [Act.put, pz1, pz2, pz3]
  refine tk 4 ⟨some 16, .load 27 (.tmp 3), 27, "ref.go:66", #[], none⟩ ?_; try simp only [Act.put, pz1, pz2, pz3]
  refine wpAnyH_ready (rs := [5]) (by kernel_rfl) (by simp) ?_
  refine AllReadyH.cons (o := ⟨some 17, .call { callee := .value (.func 43), args := #[.tmp 15, .tmp 16], argTypes := #[23, 27] }, 4, "ref.go:66", #[⟨3, .data⟩, ⟨4, .data⟩], none⟩) rfl (fun K hK => ?_) AllReadyH.nil
  go_simp
  (go_at_call 43; ((with_reducible refine (rthr_b _ _ _ _ _ x y _ _ HM ht).mono ?_); rintro e' wN ⟨rfl, hb⟩; (try have hb := undrew hb); replace hC := RefW.likeB hC hb; replace HB0 := btr HB0 HB0.size hb; replace G1 := G1.below hb G1.lt; replace HCC := RefC.below HCC hb; clear z0 z1; clear y0 y1 y2 y3 y4 y12; have z0 := G1.cell_ 0; have z1 := G1.cell_ 1; simp at z0 z1; have y0 := HCC.y0; have y1 := HCC.y1; have y2 := HCC.y2; have y3 := HCC.y3; have y4 := HCC.y4; have y12 := HCC.y12))
  go_wp2_with fail
  refine hK.out _ _ ?_ (fun hNew => ?_)
  · (first | exact ⟨y0, y1, y2, y3, y4, z0, z1⟩ | assumption)
  clear hK K hHeld
  have hHeld := hNew
  clear hNew
  try simp only [Act.put, pz1, pz2, pz3]
  refine tk 6 ⟨some 18, .unOp .not 4 (.tmp 17), 4, "ref.go:66", #[⟨5, .data⟩], none⟩ ?_; try simp only [Act.put, pz1, pz2, pz3]
  refine tk 7 ⟨some 11, .assign (.tmp 18), 4, "ref.go:66", #[⟨6, .data⟩, ⟨5, .chain⟩], none⟩ ?_; try simp only [Act.put, pz1, pz2, pz3]
  refine wpAnyH_done (by kernel_rfl) ?_ _
  refine NoPanic.normal ?_
  go_wp2_with fail
  go_ret2
  exact ⟨rfl, (by first | exact HB0 | exact HB0.drew)⟩
theorem rread_cut (m gB gN gW gD L : Nat) (Af : Option Addr) (nf cf : Nat) (a b c d e : Int) (fs : List Flt) (x y n : Int) (w : World) (s : ChS) (hC : RefW w m gB gN gW gD L Af nf cf a b c d e fs s) (hbn : s.Bnd n) (hn : n ≤ 1000000000) (hwt : s.Wt) (ho : s.on = true) (ht : Hid (thereB a b x y = true)) (hcu : Hid (s.cutB = true)) : Calls Try.prog 35 #[.pointer (some ⟨m, 0, none⟩), .agg #[.int .i64 x, .int .i64 y]] w fun e' w' => e' = .returned (.tuple #[.slice none 0 0, .int .i64 9]) ∧ RefW w' m gB gN gW gD L Af nf cf a b c d e fs s.tick ∧ Tch (fun g => g = m) w w' := by
  have HM := Lib.hid (planMay_bd hC.may).1
  have hmw := hC.lt
  have HB0 : Below w.heap.size w (w.alloc (.cells #[.int .i64 x, .int .i64 y] 27)) := (Below.refl _ _).alloc (Nat.le_refl _) _
  have G1 : Blk (w.alloc (.cells #[.int .i64 x, .int .i64 y] 27)) w.heap.size 27 #[.int .i64 x, .int .i64 y] := Blk.new_ _ _ _
  have z0 : (w.alloc (.cells #[.int .i64 x, .int .i64 y] 27)).cell? ⟨w.heap.size, 0, none⟩ = some (.int .i64 x) := G1.cell_ 0
  have z1 : (w.alloc (.cells #[.int .i64 x, .int .i64 y] 27)).cell? ⟨w.heap.size, 1, none⟩ = some (.int .i64 y) := G1.cell_ 1
  have hC := hC.below HB0
  obtain ⟨NP, NB, RWc, cB, HCC⟩ := hC.cells
  have y0 := HCC.y0; have y1 := HCC.y1; have y2 := HCC.y2; have y3 := HCC.y3; have y4 := HCC.y4; have y12 := HCC.y12
  have hnm : ¬ w.heap.size = m := by omega
  rw [show (!s.on) = false by rw [ho]; rfl] at y12
  clear ho
  go_enter Try.func35, Try.ntmps35
  go_upto_region 3 with fail
  refine wp_region_noPanic ?_
  refine wp_region_held_drew (S := (fun w' => w'.cell? ⟨m, 0, none⟩ = some (.int .i64 a) ∧ w'.cell? ⟨m, 1, none⟩ = some (.int .i64 b) ∧ w'.cell? ⟨m, 2, none⟩ = some (.int .i64 c) ∧ w'.cell? ⟨m, 3, none⟩ = some (.int .i64 d) ∧ w'.cell? ⟨m, 4, none⟩ = some (.int .i64 e) ∧ w'.cell? ⟨w.heap.size, 0, none⟩ = some (.int .i64 x) ∧ w'.cell? ⟨w.heap.size, 1, none⟩ = some (.int .i64 y))) (by kernel_rfl) ?_ (fun hHeld => ?_)
  · (first | exact ⟨y0, y1, y2, y3, y4, z0, z1⟩ | assumption)
  refine tk 0 ⟨some 12, .move (.tmp 0), 30, "ref.go:66", #[], none⟩ ?_; try simp only [Act.put, pz1, pz2, pz3]
  refine tk 1 ⟨some 13, .nilCheck (.tmp 12), 0, "ref.go:66", #[⟨0, .data⟩], none⟩ ?_; try simp only [Act.put, pz1, pz2, pz3]
  refine tk 2 ⟨some 14, .fieldAddr 94 (.tmp 13) 0, 0, "ref.go:66", #[⟨1, .data⟩], none⟩ ?_; try simp only [Act.put, pz1, pz2, pz3]
  refine tk 3 ⟨some 15, .load 23 (.tmp 14), 23, "ref.go:66", #[⟨2, .data⟩], none⟩ ?_; try simp only [Act.put, pz1, pz2, pz3]
  refine tk 4 ⟨some 16, .load 27 (.tmp 3), 27, "ref.go:66", #[], none⟩ ?_; try simp only [Act.put, pz1, pz2, pz3]
  refine wpAnyH_ready (rs := [5]) (by kernel_rfl) (by simp) ?_
  refine AllReadyH.cons (o := ⟨some 17, .call { callee := .value (.func 43), args := #[.tmp 15, .tmp 16], argTypes := #[23, 27] }, 4, "ref.go:66", #[⟨3, .data⟩, ⟨4, .data⟩], none⟩) rfl (fun K hK => ?_) AllReadyH.nil
  go_simp
  (go_at_call 43; ((with_reducible refine (rthr_b _ _ _ _ _ x y _ _ HM ht).mono ?_); rintro e' wN ⟨rfl, hb⟩; (try have hb := undrew hb); replace hC := RefW.likeB hC hb; replace HB0 := btr HB0 HB0.size hb; replace G1 := G1.below hb G1.lt; replace HCC := RefC.below HCC hb; clear z0 z1; clear y0 y1 y2 y3 y4 y12; have z0 := G1.cell_ 0; have z1 := G1.cell_ 1; simp at z0 z1; have y0 := HCC.y0; have y1 := HCC.y1; have y2 := HCC.y2; have y3 := HCC.y3; have y4 := HCC.y4; have y12 := HCC.y12))
  go_wp2_with fail
  refine hK.out _ _ ?_ (fun hNew => ?_)
  · (first | exact ⟨y0, y1, y2, y3, y4, z0, z1⟩ | assumption)
  clear hK K hHeld
  have hHeld := hNew
  clear hNew
  try simp only [Act.put, pz1, pz2, pz3]
  refine tk 6 ⟨some 18, .unOp .not 4 (.tmp 17), 4, "ref.go:66", #[⟨5, .data⟩], none⟩ ?_; try simp only [Act.put, pz1, pz2, pz3]
  refine tk 7 ⟨some 11, .assign (.tmp 18), 4, "ref.go:66", #[⟨6, .data⟩, ⟨5, .chain⟩], none⟩ ?_; try simp only [Act.put, pz1, pz2, pz3]
  refine wpAnyH_done (by kernel_rfl) ?_ _
  refine NoPanic.normal ?_
  go_wp2_with (go_at_call 61; ((with_reducible refine (rturn_b _ _ _ _ _ _ _ _ _ _ _ _ _ _ _ _ _ _ _ hC hbn hn hwt hcu).mono ?_); rintro e' wN ⟨rfl, hC2, hT⟩; have HT := (Tch.of_below (S := fun g => g = m) HB0).trans (Tch.like0 hT); have hlt0 := hT.far w.heap.size G1.lt hnm; replace G1 : Blk wN w.heap.size _ _ := hlt0.trans G1; clear hlt0 hC HCC; have hC := hC2; clear hC2 z0 z1; clear y0 y1 y2 y3 y4 y12; have z0 := G1.cell_ 0; have z1 := G1.cell_ 1; simp at z0 z1))
  go_ret2
  exact ⟨rfl, hC, HT⟩
end Go.Proofs.Ytcpniplfkillbaa
namespace Go.Proofs.Ytcpniplfkillbaa
open Go.ChangeShapes Go.WideShapes Go.ChangeAt Go.RowKit
theorem Tch.thenB {S : Nat → Prop} {w w1 w1' w2 : World} (h : Tch S w w1) (hb : Below w1'.heap.size w1' w2) (e1 : w1'.heap = w1.heap := by rfl) (e2 : w1'.os = w1.os := by rfl) (e3 : w1'.tape = w1.tape := by rfl) (e4 : w1'.output = w1.output := by rfl) : Tch S w w2 :=
  (h.like e1 e2 e3 e4).then hb
end Go.Proofs.Ytcpniplfkillbaa
namespace Go.Proofs.Ytcpniplfkillbaa
open Go.ChangeShapes Go.WideShapes Go.ChangeAt Go.RowKit
theorem kcol_set (K : List Int) (j NB k : Nat) (v : Int) (hk : k < NB) (hl : k * 3 + j < K.length) (hj : j < 3) : kcol (K.set (k * 3 + j) v) j NB = (kcol K j NB).set k (.int .i64 v) := by
  apply List.ext_getElem?
  intro i
  unfold kcol
  rw [List.getElem?_set, List.getElem?_map, List.getElem?_map]
  by_cases hi : i < NB
  · rw [List.getElem?_range hi]
    simp only [Option.map_some, getD_setN]
    by_cases e : k = i
    · subst e
      rw [if_pos ⟨by omega, hl⟩, if_pos rfl, if_pos (by simpa using hk)]
    · rw [if_neg (by omega), if_neg e]
  · rw [List.getElem?_eq_none (by simp; omega)]
    by_cases e : k = i
    · omega
    · rw [if_neg e]
      rfl
theorem kcol_other (K : List Int) (j j' NB k : Nat) (v : Int) (hj : j < 3) (hj' : j' < 3) (h : j ≠ j') : kcol (K.set (k * 3 + j) v) j' NB = kcol K j' NB := by
  unfold kcol
  apply List.map_congr_left
  intro i _
  rw [getD_setN, if_neg (by omega)]
theorem RefW.set0 {w : World} {m gB gN gW gD L : Nat} {Af : Option Addr} {nf cf : Nat} {a b c d e : Int} {fs : List Flt} {s : ChS} (hC : RefW w m gB gN gW gD L Af nf cf a b c d e fs s) {k : Nat} (hk : (k : Int) < a) (v : Int) : RefW (w.setCell ⟨gN, k, none⟩ (.int .i64 v)) m gB gN gW gD L Af nf cf a b c d e fs { s with K := s.K.set (k * 3 + 0) v } := by
  obtain ⟨⟨cB, NP, NB, RW, hRW, hNP, hNB, hcB, hB, P, hPl, rB, hP⟩, rN, rW, rD, rF, hne, hge, l1, l2, l3, l4⟩ := hC
  have hT := Tch.setm w gN k (.int .i64 v)
  refine ⟨⟨cB, NP, NB, RW, hRW, hNP, hNB, hcB, hB.far hne.1.2.1 _, P, hPl, rB.far hne.2.1.1 _, fun i p hi => (hP i p hi).keep hT.size (hT.far _ (hP i p hi).lt (fun e => (hP i p hi).ns (e ▸ Or.inr (Or.inr (Or.inl rfl)))))⟩, ?_, ?_, ?_, rF.keep hT.size (fun g hg _ hs => hT.far g hg (fun e => hs (e ▸ Or.inr (Or.inr (Or.inl rfl))))), hne, hge, l1, by simpa using l2, l3, l4⟩
  · rw [show s.K.set (k * 3 + 0) v = s.K.set (k * 3 + 0) v from rfl]
    have := rN.set_ (i := k) (by rw [kcol_len]; omega) (.int .i64 v)
    rw [← kcol_set _ 0 _ _ _ (by omega) (by omega) (by omega)] at this
    exact this
  · have := rW.far (p := ⟨gN, k, none⟩) (fun e => hne.2.2.1.1 e.symm) (.int .i64 v)
    rw [← kcol_other s.K 0 1 a.toNat k v (by omega) (by omega) (by omega)] at this
    exact this
  · have := rD.far (p := ⟨gN, k, none⟩) (fun e => hne.2.2.1.2 e.symm) (.int .i64 v)
    rw [← kcol_other s.K 0 2 a.toNat k v (by omega) (by omega) (by omega)] at this
    exact this
theorem RefW.set2 {w : World} {m gB gN gW gD L : Nat} {Af : Option Addr} {nf cf : Nat} {a b c d e : Int} {fs : List Flt} {s : ChS} (hC : RefW w m gB gN gW gD L Af nf cf a b c d e fs s) {k : Nat} (hk : (k : Int) < a) (v : Int) : RefW (w.setCell ⟨gD, k, none⟩ (.int .i64 v)) m gB gN gW gD L Af nf cf a b c d e fs { s with K := s.K.set (k * 3 + 2) v } := by
  obtain ⟨⟨cB, NP, NB, RW, hRW, hNP, hNB, hcB, hB, P, hPl, rB, hP⟩, rN, rW, rD, rF, hne, hge, l1, l2, l3, l4⟩ := hC
  have hT := Tch.setm w gD k (.int .i64 v)
  refine ⟨⟨cB, NP, NB, RW, hRW, hNP, hNB, hcB, hB.far hne.1.2.2.2 _, P, hPl, rB.far hne.2.1.2.2 _, fun i p hi => (hP i p hi).keep hT.size (hT.far _ (hP i p hi).lt (fun e => (hP i p hi).ns (e ▸ Or.inr (Or.inr (Or.inr (Or.inr rfl))))))⟩, ?_, ?_, ?_, rF.keep hT.size (fun g hg _ hs => hT.far g hg (fun e => hs (e ▸ Or.inr (Or.inr (Or.inr (Or.inr rfl)))))), hne, hge, l1, by simpa using l2, l3, l4⟩
  · have := rN.far (p := ⟨gD, k, none⟩) hne.2.2.1.2 (.int .i64 v)
    rw [← kcol_other s.K 2 0 a.toNat k v (by omega) (by omega) (by omega)] at this
    exact this
  · have := rW.far (p := ⟨gD, k, none⟩) hne.2.2.2 (.int .i64 v)
    rw [← kcol_other s.K 2 1 a.toNat k v (by omega) (by omega) (by omega)] at this
    exact this
  · rw [show s.K.set (k * 3 + 2) v = s.K.set (k * 3 + 2) v from rfl]
    have := rD.set_ (i := k) (by rw [kcol_len]; omega) (.int .i64 v)
    rw [← kcol_set _ 2 _ _ _ (by omega) (by omega) (by omega)] at this
    exact this
theorem own_rowC {w : World} {base n : Nat} {t : TypeId} {v : Value} {xs : List Value} (h : w.ownsRow base t 1 v n xs) (hn : 1 ≤ n) : ∃ g c, v = .slice (some ⟨g, 0, none⟩) n c ∧ RowT w g t xs ∧ base ≤ g ∧ n ≤ c ∧ c ≤ maxLen := by
  obtain ⟨hl, h'⟩ := h
  rcases h' with ⟨_, h0⟩ | ⟨g, cap, cur, rfl, hb, hh, hnc, hm, hsz, ht⟩
  · rw [h0] at hl
    simp at hl
    omega
  · refine ⟨g, cap, rfl, ⟨cur.toList.drop (n * 1), ?_⟩, hb, hnc, hm⟩
    unfold Blk
    rw [← ht, List.take_append_drop]
    exact hh
theorem putX_getD {X vs : List Nat} {F : Nat} (h : F + vs.length ≤ X.length) (j : Nat) : (putX X F vs).getD j 0 = if j < F then X.getD j 0 else if j < F + vs.length then vs.getD (j - F) 0 else X.getD j 0 := by
  simp only [List.getD_eq_getElem?_getD]
  rw [putX_get h]
  split
  · rfl
  · split <;> rfl
theorem RefW.setPage {w : World} {m gB gN gW gD L : Nat} {Af : Option Addr} {nf cf : Nat} {a b c d e : Int} {fs : List Flt} {s : ChS} (hC : RefW w m gB gN gW gD L Af nf cf a b c d e fs s) {N RW g9 c9 : Nat} {vs : List Nat} (hR : RowT w g9 5 ((vs ++ (s.pageOf N RW).drop vs.length).map byteV)) (hg9 : L ≤ g9) (hns : ¬ rfB m gB gN gW gD g9) (hc1 : RW ≤ c9) (hc2 : c9 ≤ maxLen) (hr : (RW : Int) = c + 16) (hv : vs.length ≤ RW) (hN : (N : Int) < a * b) (hf : N * RW + RW ≤ s.X.length) : RefW (w.setCell ⟨gB, N, none⟩ (.slice (some ⟨g9, 0, none⟩) RW c9)) m gB gN gW gD L Af nf cf a b c d e fs { s with X := putX s.X (N * RW) vs } := by
  obtain ⟨⟨cB, NP, NB, RW', hRW, hNP, hNB, hcB, hB, P, hPl, rB, hP⟩, rN, rW, rD, rF, hne, hge, l1, l2, l3, l4⟩ := hC
  have e : RW' = RW := by omega
  subst e
  have hT := Tch.setm w gB N (.slice (some ⟨g9, 0, none⟩) RW' c9)
  have hlt : N < P.length := by omega
  refine ⟨⟨cB, NP, NB, RW', hRW, hNP, hNB, hcB, hB.far hne.1.1 _, P.set N (g9, c9), by simpa using hPl, ?_, ?_⟩, rN.far (fun e => hne.2.1.1 e.symm) _, rW.far (fun e => hne.2.1.2.1 e.symm) _, rD.far (fun e => hne.2.1.2.2 e.symm) _, rF.keep hT.size (fun g hg _ hs => hT.far g hg (fun e => hs (e ▸ Or.inr (Or.inl rfl)))), hne, hge, by rw [putX_len (by omega)]; exact l1, l2, l3, l4⟩
  · have := rB.set_ (i := N) (by simpa using hlt) (.slice (some ⟨g9, 0, none⟩) RW' c9)
    rw [List.map_set]
    exact this
  · intro i p hi
    rw [List.getElem?_set] at hi
    by_cases e : N = i
    · subst e
      rw [if_pos rfl, if_pos hlt] at hi
      obtain rfl := Option.some.inj hi
      have hgB : g9 ≠ gB := fun e => hns (Or.inr (Or.inl e))
      refine ⟨by have := hR.lt; have := hT.size; omega, hg9, hns, hc1, hc2, fun j hj => ?_⟩
      refine (RowT.far hR hgB _).cell_ ?_
      rw [putX_getD (by omega), if_neg (by omega), List.getElem?_map]
      by_cases hjv : j < vs.length
      · rw [if_pos (by omega), List.getElem?_append_left hjv, show N * RW' + j - N * RW' = j by omega, List.getD_eq_getElem?_getD, List.getElem?_eq_getElem hjv]
        rfl
      · rw [if_neg (by omega), List.getElem?_append_right (by omega), List.getElem?_drop, show vs.length + (j - vs.length) = j by omega]
        unfold ChS.pageOf
        rw [List.getElem?_take, if_pos hj, List.getElem?_drop, List.getD_eq_getElem?_getD, List.getElem?_eq_getElem (by omega)]
        rfl
    · rw [if_neg e] at hi
      have hg := (hP i p hi).keep hT.size (hT.far _ (hP i p hi).lt (fun e => (hP i p hi).ns (e ▸ Or.inr (Or.inl rfl))))
      refine ⟨hg.lt, hg.ge, hg.ns, hg.cap, hg.cap2, fun j hj => ?_⟩
      rw [hg.cell j hj, putX_getD (by omega)]
      congr 2
      rcases Nat.lt_or_gt_of_ne e with h | h
      · have : (N + 1) * RW' ≤ i * RW' := Nat.mul_le_mul_right _ h
        rw [Nat.succ_mul] at this
        rw [if_neg (by omega), if_neg (by omega)]
      · have : (i + 1) * RW' ≤ N * RW' := Nat.mul_le_mul_right _ h
        rw [Nat.succ_mul] at this
        rw [if_pos (by omega)]
end Go.Proofs.Ytcpniplfkillbaa
namespace Go.Proofs.Ytcpniplfkillbaa
open Go.ChangeShapes Go.WideShapes Go.ChangeAt Go.RowKit
theorem rprog_off (m gB gN gW gD L : Nat) (Af : Option Addr) (nf cf : Nat) (a b c d e : Int) (fs : List Flt) (x y : Int) (A : Option Addr) (nb cA : Nat) (w : World) (s : ChS) (hC : RefW w m gB gN gW gD L Af nf cf a b c d e fs s) (ho : s.on = false) : Calls Try.prog 33 #[.pointer (some ⟨m, 0, none⟩), .agg #[.int .i64 x, .int .i64 y], .slice A nb cA] w fun e' w' => e' = .returned (.int .i64 9) ∧ Below w.heap.size w w' := by
  have HM := Lib.hid (planMay_bd hC.may).1
  have hmw := hC.lt
  have HB0 : Below w.heap.size w (w.alloc (.cells #[.int .i64 x, .int .i64 y] 27)) := (Below.refl _ _).alloc (Nat.le_refl _) _
  have G1 : Blk (w.alloc (.cells #[.int .i64 x, .int .i64 y] 27)) w.heap.size 27 #[.int .i64 x, .int .i64 y] := Blk.new_ _ _ _
  have z0 : (w.alloc (.cells #[.int .i64 x, .int .i64 y] 27)).cell? ⟨w.heap.size, 0, none⟩ = some (.int .i64 x) := G1.cell_ 0
  have z1 : (w.alloc (.cells #[.int .i64 x, .int .i64 y] 27)).cell? ⟨w.heap.size, 1, none⟩ = some (.int .i64 y) := G1.cell_ 1
  have hC := hC.below HB0
  obtain ⟨NP, NB, RWc, cB, HCC⟩ := hC.cells
  have y0 := HCC.y0; have y1 := HCC.y1; have y2 := HCC.y2; have y3 := HCC.y3; have y4 := HCC.y4; have y12 := HCC.y12
  rw [show (!s.on) = true by rw [ho]; rfl] at y12
  clear ho
  clear hC HCC G1 z0 z1
  go_enter Try.func33, Try.ntmps33
  go_wp2_with fail
  go_ret
  exact ⟨rfl, HB0⟩
theorem rprog_arg (m gB gN gW gD L : Nat) (Af : Option Addr) (nf cf : Nat) (a b c d e : Int) (fs : List Flt) (x y : Int) (A : Option Addr) (nb cA : Nat) (w : World) (s : ChS) (hC : RefW w m gB gN gW gD L Af nf cf a b c d e fs s) (ho : s.on = true) (ht : Hid (thereB a b x y = false)) : Calls Try.prog 33 #[.pointer (some ⟨m, 0, none⟩), .agg #[.int .i64 x, .int .i64 y], .slice A nb cA] w fun e' w' => e' = .returned (.int .i64 2) ∧ Below w.heap.size w w' := by
  have HM := Lib.hid (planMay_bd hC.may).1
  have hmw := hC.lt
  have HB0 : Below w.heap.size w (w.alloc (.cells #[.int .i64 x, .int .i64 y] 27)) := (Below.refl _ _).alloc (Nat.le_refl _) _
  have G1 : Blk (w.alloc (.cells #[.int .i64 x, .int .i64 y] 27)) w.heap.size 27 #[.int .i64 x, .int .i64 y] := Blk.new_ _ _ _
  have z0 : (w.alloc (.cells #[.int .i64 x, .int .i64 y] 27)).cell? ⟨w.heap.size, 0, none⟩ = some (.int .i64 x) := G1.cell_ 0
  have z1 : (w.alloc (.cells #[.int .i64 x, .int .i64 y] 27)).cell? ⟨w.heap.size, 1, none⟩ = some (.int .i64 y) := G1.cell_ 1
  have hC := hC.below HB0
  obtain ⟨NP, NB, RWc, cB, HCC⟩ := hC.cells
  have y0 := HCC.y0; have y1 := HCC.y1; have y2 := HCC.y2; have y3 := HCC.y3; have y4 := HCC.y4; have y12 := HCC.y12
  rw [show (!s.on) = false by rw [ho]; rfl] at y12
  clear ho
  go_enter Try.func33, Try.ntmps33
  go_upto_region 3 with fail
  refine wp_region_noPanic ?_
  refine wp_region_held_drew (S := (fun w' => w'.cell? ⟨m, 0, none⟩ = some (.int .i64 a) ∧ w'.cell? ⟨m, 1, none⟩ = some (.int .i64 b) ∧ w'.cell? ⟨m, 2, none⟩ = some (.int .i64 c) ∧ w'.cell? ⟨m, 3, none⟩ = some (.int .i64 d) ∧ w'.cell? ⟨m, 4, none⟩ = some (.int .i64 e) ∧ w'.cell? ⟨w.heap.size, 0, none⟩ = some (.int .i64 x) ∧ w'.cell? ⟨w.heap.size, 1, none⟩ = some (.int .i64 y))) (by kernel_rfl) ?_ (fun hHeld => ?_)
  · (first | exact ⟨y0, y1, y2, y3, y4, z0, z1⟩ | assumption)
  refine tk 0 ⟨some 15, .move (.tmp 0), 30, "ref.go:79", #[], none⟩ ?_; try simp only [Act.put, pz1, pz2, pz3]
  refine tk 1 ⟨some 16, .nilCheck (.tmp 15), 0, "ref.go:79", #[⟨0, .data⟩], none⟩ ?_; try simp only [Act.put, pz1, pz2, pz3]
  refine tk 2 ⟨some 17, .fieldAddr 94 (.tmp 16) 0, 0, "ref.go:79", #[⟨1, .data⟩], none⟩ ?_; try simp only [Act.put, pz1, pz2, pz3]
  refine tk 3 ⟨some 18, .load 23 (.tmp 17), 23, "ref.go:79", #[⟨2, .data⟩], none⟩ ?_; try simp only [Act.put, pz1, pz2, pz3]
  refine tk 4 ⟨some 19, .load 27 (.tmp 4), 27, "ref.go:79", #[], none⟩ ?_; try simp only [Act.put, pz1, pz2, pz3]
  refine wpAnyH_ready (rs := [5]) (by kernel_rfl) (by simp) ?_
  refine AllReadyH.cons (o := ⟨some 20, .call { callee := .value (.func 43), args := #[.tmp 18, .tmp 19], argTypes := #[23, 27] }, 4, "ref.go:79", #[⟨3, .data⟩, ⟨4, .data⟩], none⟩) rfl (fun K hK => ?_) AllReadyH.nil
  go_simp
  (first | (go_at_call 43; ((with_reducible refine (rthr_b _ _ _ _ _ x y _ _ HM ht).mono ?_); rintro e' wN ⟨rfl, hb⟩; (try have hb := undrew hb); replace hC := RefW.likeB hC hb; replace HB0 := btr HB0 HB0.size hb; replace G1 := G1.below hb G1.lt; replace HCC := RefC.below HCC hb; clear z0 z1; clear y0 y1 y2 y3 y4 y12; have z0 := G1.cell_ 0; have z1 := G1.cell_ 1; simp at z0 z1; have y0 := HCC.y0; have y1 := HCC.y1; have y2 := HCC.y2; have y3 := HCC.y3; have y4 := HCC.y4; have y12 := HCC.y12)) | fail)
  go_wp2_with fail
  refine hK.out _ _ ?_ (fun hNew => ?_)
  · (first | exact ⟨y0, y1, y2, y3, y4, z0, z1⟩ | assumption)
  clear hK K hHeld
  have hHeld := hNew
  clear hNew
  try simp only [Act.put, pz1, pz2, pz3]
  refine tk 6 ⟨some 21, .unOp .not 4 (.tmp 20), 4, "ref.go:79", #[⟨5, .data⟩], none⟩ ?_; try simp only [Act.put, pz1, pz2, pz3]
  refine tk 7 ⟨some 22, .move (.tmp 21), 4, "ref.go:79", #[⟨6, .data⟩, ⟨5, .chain⟩], none⟩ ?_; try simp only [Act.put, pz1, pz2, pz3]
  refine tu 8 ⟨some 23, .move (.tmp 2), 38, "ref.go:79", #[⟨7, .guard⟩], some (7, false)⟩ ?_
  try simp only [Act.put, pz1, pz2, pz3]
  refine tu 9 ⟨some 24, .call { callee := .builtin .len, args := #[.tmp 23], argTypes := #[38] }, 3, "ref.go:79", #[⟨8, .data⟩, ⟨7, .guard⟩], some (7, false)⟩ ?_
  try simp only [Act.put, pz1, pz2, pz3]
  refine tu 10 ⟨some 25, .move (.tmp 0), 30, "ref.go:79", #[⟨7, .guard⟩], some (7, false)⟩ ?_
  try simp only [Act.put, pz1, pz2, pz3]
  refine tu 11 ⟨some 26, .nilCheck (.tmp 25), 0, "ref.go:79", #[⟨10, .data⟩, ⟨7, .guard⟩], some (7, false)⟩ ?_
  try simp only [Act.put, pz1, pz2, pz3]
  refine tu 12 ⟨some 27, .fieldAddr 94 (.tmp 26) 0, 0, "ref.go:79", #[⟨11, .data⟩, ⟨7, .guard⟩], some (7, false)⟩ ?_
  try simp only [Act.put, pz1, pz2, pz3]
  refine tu 13 ⟨some 28, .load 23 (.tmp 27), 23, "ref.go:79", #[⟨12, .data⟩, ⟨7, .guard⟩], some (7, false)⟩ ?_
  try simp only [Act.put, pz1, pz2, pz3]
  refine tu 14 ⟨some 29, .call { callee := .value (.func 60), args := #[.tmp 28], argTypes := #[23] }, 3, "ref.go:79", #[⟨13, .data⟩, ⟨7, .chain⟩, ⟨7, .guard⟩], some (7, false)⟩ ?_
  try simp only [Act.put, pz1, pz2, pz3]
  refine tu 15 ⟨some 30, .binOp .neq 3 (.tmp 24) (.tmp 29) 3, 4, "ref.go:79", #[⟨9, .data⟩, ⟨14, .data⟩, ⟨7, .guard⟩], some (7, false)⟩ ?_
  try simp only [Act.put, pz1, pz2, pz3]
  refine tk 16 ⟨some 31, .pick (.tmp 22) (.const (.bool true)) (.tmp 30), 4, "ref.go:79", #[⟨7, .data⟩, ⟨15, .data⟩], none⟩ ?_; try simp only [Act.put, pz1, pz2, pz3]
  refine wpAnyH_done (by kernel_rfl) ?_ _
  refine NoPanic.normal ?_
  go_wp2_with fail
  go_ret
  exact ⟨rfl, (by first | exact HB0 | exact HB0.drew)⟩
theorem rprog_len (m gB gN gW gD L : Nat) (Af : Option Addr) (nf cf : Nat) (a b c d e : Int) (fs : List Flt) (x y : Int) (A : Option Addr) (nb cA RW : Nat) (w : World) (s : ChS) (hC : RefW w m gB gN gW gD L Af nf cf a b c d e fs s) (ho : s.on = true) (ht : Hid (thereB a b x y = true)) (HRW : Hid ((RW : Int) = c + 16)) (hne : nb ≠ RW) : Calls Try.prog 33 #[.pointer (some ⟨m, 0, none⟩), .agg #[.int .i64 x, .int .i64 y], .slice A nb cA] w fun e' w' => e' = .returned (.int .i64 2) ∧ Below w.heap.size w w' := by
  have HM := Lib.hid (planMay_bd hC.may).1
  have hmw := hC.lt
  have HB0 : Below w.heap.size w (w.alloc (.cells #[.int .i64 x, .int .i64 y] 27)) := (Below.refl _ _).alloc (Nat.le_refl _) _
  have G1 : Blk (w.alloc (.cells #[.int .i64 x, .int .i64 y] 27)) w.heap.size 27 #[.int .i64 x, .int .i64 y] := Blk.new_ _ _ _
  have z0 : (w.alloc (.cells #[.int .i64 x, .int .i64 y] 27)).cell? ⟨w.heap.size, 0, none⟩ = some (.int .i64 x) := G1.cell_ 0
  have z1 : (w.alloc (.cells #[.int .i64 x, .int .i64 y] 27)).cell? ⟨w.heap.size, 1, none⟩ = some (.int .i64 y) := G1.cell_ 1
  have hC := hC.below HB0
  obtain ⟨NP, NB, RWc, cB, HCC⟩ := hC.cells
  have y0 := HCC.y0; have y1 := HCC.y1; have y2 := HCC.y2; have y3 := HCC.y3; have y4 := HCC.y4; have y12 := HCC.y12
  rw [show (!s.on) = false by rw [ho]; rfl] at y12
  clear ho
  have hnn : ((nb : Int) == (RW : Int)) = false := by simp; omega
  have hnm : ((nb : Int) != (RW : Int)) = true := by simp; omega
  clear hne
  go_enter Try.func33, Try.ntmps33
  go_upto_region 3 with fail
  refine wp_region_noPanic ?_
  refine wp_region_held_drew (S := (fun w' => w'.cell? ⟨m, 0, none⟩ = some (.int .i64 a) ∧ w'.cell? ⟨m, 1, none⟩ = some (.int .i64 b) ∧ w'.cell? ⟨m, 2, none⟩ = some (.int .i64 c) ∧ w'.cell? ⟨m, 3, none⟩ = some (.int .i64 d) ∧ w'.cell? ⟨m, 4, none⟩ = some (.int .i64 e) ∧ w'.cell? ⟨w.heap.size, 0, none⟩ = some (.int .i64 x) ∧ w'.cell? ⟨w.heap.size, 1, none⟩ = some (.int .i64 y))) (by kernel_rfl) ?_ (fun hHeld => ?_)
  · (first | exact ⟨y0, y1, y2, y3, y4, z0, z1⟩ | assumption)
  refine tk 0 ⟨some 15, .move (.tmp 0), 30, "ref.go:79", #[], none⟩ ?_; try simp only [Act.put, pz1, pz2, pz3]
  refine tk 1 ⟨some 16, .nilCheck (.tmp 15), 0, "ref.go:79", #[⟨0, .data⟩], none⟩ ?_; try simp only [Act.put, pz1, pz2, pz3]
  refine tk 2 ⟨some 17, .fieldAddr 94 (.tmp 16) 0, 0, "ref.go:79", #[⟨1, .data⟩], none⟩ ?_; try simp only [Act.put, pz1, pz2, pz3]
  refine tk 3 ⟨some 18, .load 23 (.tmp 17), 23, "ref.go:79", #[⟨2, .data⟩], none⟩ ?_; try simp only [Act.put, pz1, pz2, pz3]
  refine tk 4 ⟨some 19, .load 27 (.tmp 4), 27, "ref.go:79", #[], none⟩ ?_; try simp only [Act.put, pz1, pz2, pz3]
  refine wpAnyH_ready (rs := [5]) (by kernel_rfl) (by simp) ?_
  refine AllReadyH.cons (o := ⟨some 20, .call { callee := .value (.func 43), args := #[.tmp 18, .tmp 19], argTypes := #[23, 27] }, 4, "ref.go:79", #[⟨3, .data⟩, ⟨4, .data⟩], none⟩) rfl (fun K hK => ?_) AllReadyH.nil
  go_simp
  (first | (go_at_call 43; ((with_reducible refine (rthr_b _ _ _ _ _ x y _ _ HM ht).mono ?_); rintro e' wN ⟨rfl, hb⟩; (try have hb := undrew hb); replace hC := RefW.likeB hC hb; replace HB0 := btr HB0 HB0.size hb; replace G1 := G1.below hb G1.lt; replace HCC := RefC.below HCC hb; clear z0 z1; clear y0 y1 y2 y3 y4 y12; have z0 := G1.cell_ 0; have z1 := G1.cell_ 1; simp at z0 z1; have y0 := HCC.y0; have y1 := HCC.y1; have y2 := HCC.y2; have y3 := HCC.y3; have y4 := HCC.y4; have y12 := HCC.y12)) | (go_at_call 60; ((with_reducible refine (rraw_b _ _ _ _ _ RW _ HM HRW).mono ?_); rintro e' wN ⟨rfl, hb⟩; (try have hb := undrew hb); replace hC := RefW.likeB hC hb; replace HB0 := btr HB0 HB0.size hb; replace G1 := G1.below hb G1.lt; replace HCC := RefC.below HCC hb; clear z0 z1; clear y0 y1 y2 y3 y4 y12; have z0 := G1.cell_ 0; have z1 := G1.cell_ 1; simp at z0 z1; have y0 := HCC.y0; have y1 := HCC.y1; have y2 := HCC.y2; have y3 := HCC.y3; have y4 := HCC.y4; have y12 := HCC.y12)))
  go_wp2_with fail
  refine hK.out _ _ ?_ (fun hNew => ?_)
  · (first | exact ⟨y0, y1, y2, y3, y4, z0, z1⟩ | assumption)
  clear hK K hHeld
  have hHeld := hNew
  clear hNew
  try simp only [Act.put, pz1, pz2, pz3]
  refine tk 6 ⟨some 21, .unOp .not 4 (.tmp 20), 4, "ref.go:79", #[⟨5, .data⟩], none⟩ ?_; try simp only [Act.put, pz1, pz2, pz3]
  refine tk 7 ⟨some 22, .move (.tmp 21), 4, "ref.go:79", #[⟨6, .data⟩, ⟨5, .chain⟩], none⟩ ?_; try simp only [Act.put, pz1, pz2, pz3]
  refine tk 8 ⟨some 23, .move (.tmp 2), 38, "ref.go:79", #[⟨7, .guard⟩], some (7, false)⟩ ?_; try simp only [Act.put, pz1, pz2, pz3]
  refine tk 9 ⟨some 24, .call { callee := .builtin .len, args := #[.tmp 23], argTypes := #[38] }, 3, "ref.go:79", #[⟨8, .data⟩, ⟨7, .guard⟩], some (7, false)⟩ ?_; try simp only [Act.put, pz1, pz2, pz3]
  refine tk 10 ⟨some 25, .move (.tmp 0), 30, "ref.go:79", #[⟨7, .guard⟩], some (7, false)⟩ ?_; try simp only [Act.put, pz1, pz2, pz3]
  refine tk 11 ⟨some 26, .nilCheck (.tmp 25), 0, "ref.go:79", #[⟨10, .data⟩, ⟨7, .guard⟩], some (7, false)⟩ ?_; try simp only [Act.put, pz1, pz2, pz3]
  refine tk 12 ⟨some 27, .fieldAddr 94 (.tmp 26) 0, 0, "ref.go:79", #[⟨11, .data⟩, ⟨7, .guard⟩], some (7, false)⟩ ?_; try simp only [Act.put, pz1, pz2, pz3]
  refine tk 13 ⟨some 28, .load 23 (.tmp 27), 23, "ref.go:79", #[⟨12, .data⟩, ⟨7, .guard⟩], some (7, false)⟩ ?_; try simp only [Act.put, pz1, pz2, pz3]
  refine wpAnyH_ready (rs := [14]) (by kernel_rfl) (by simp) ?_
  refine AllReadyH.cons (o := ⟨some 29, .call { callee := .value (.func 60), args := #[.tmp 28], argTypes := #[23] }, 3, "ref.go:79", #[⟨13, .data⟩, ⟨7, .chain⟩, ⟨7, .guard⟩], some (7, false)⟩) rfl (fun K hK => ?_) AllReadyH.nil
  go_simp
  (first | (go_at_call 43; ((with_reducible refine (rthr_b _ _ _ _ _ x y _ _ HM ht).mono ?_); rintro e' wN ⟨rfl, hb⟩; (try have hb := undrew hb); replace hC := RefW.likeB hC hb; replace HB0 := btr HB0 HB0.size hb; replace G1 := G1.below hb G1.lt; replace HCC := RefC.below HCC hb; clear z0 z1; clear y0 y1 y2 y3 y4 y12; have z0 := G1.cell_ 0; have z1 := G1.cell_ 1; simp at z0 z1; have y0 := HCC.y0; have y1 := HCC.y1; have y2 := HCC.y2; have y3 := HCC.y3; have y4 := HCC.y4; have y12 := HCC.y12)) | (go_at_call 60; ((with_reducible refine (rraw_b _ _ _ _ _ RW _ HM HRW).mono ?_); rintro e' wN ⟨rfl, hb⟩; (try have hb := undrew hb); replace hC := RefW.likeB hC hb; replace HB0 := btr HB0 HB0.size hb; replace G1 := G1.below hb G1.lt; replace HCC := RefC.below HCC hb; clear z0 z1; clear y0 y1 y2 y3 y4 y12; have z0 := G1.cell_ 0; have z1 := G1.cell_ 1; simp at z0 z1; have y0 := HCC.y0; have y1 := HCC.y1; have y2 := HCC.y2; have y3 := HCC.y3; have y4 := HCC.y4; have y12 := HCC.y12)))
  go_wp2_with fail
  refine hK.out _ _ ?_ (fun hNew => ?_)
  · (first | exact ⟨y0, y1, y2, y3, y4, z0, z1⟩ | assumption)
  clear hK K hHeld
  have hHeld := hNew
  clear hNew
  try simp only [Act.put, pz1, pz2, pz3]
  refine tk 15 ⟨some 30, .binOp .neq 3 (.tmp 24) (.tmp 29) 3, 4, "ref.go:79", #[⟨9, .data⟩, ⟨14, .data⟩, ⟨7, .guard⟩], some (7, false)⟩ ?_; try simp only [Act.put, pz1, pz2, pz3]
  refine tk 16 ⟨some 31, .pick (.tmp 22) (.const (.bool true)) (.tmp 30), 4, "ref.go:79", #[⟨7, .data⟩, ⟨15, .data⟩], none⟩ ?_; try simp only [Act.put, pz1, pz2, pz3]
  refine wpAnyH_done (by kernel_rfl) ?_ _
  refine NoPanic.normal ?_
  go_wp2_with fail
  go_ret
  exact ⟨rfl, (by first | exact HB0 | exact HB0.drew)⟩
theorem failed_in {a : Int} {fs : List Flt} {s : ChS} {k : Nat} (hk : (k : Int) < a) : failedB a fs s (k : Int) = failsB fs (k : Int) (s.k (k : Int) 2) := by
  unfold failedB
  rw [inB_yes (by omega) hk, Bool.true_and]
theorem rprog_failcut (m gB gN gW gD L : Nat) (Af : Option Addr) (nf cf : Nat) (a b c d e : Int) (fs : List Flt) (k l : Nat) (n : Int) (A : Option Addr) (cA RW : Nat) (w : World) (s : ChS) (hC : RefW w m gB gN gW gD L Af nf cf a b c d e fs s) (hbn : s.Bnd n) (hn : n ≤ 900000000) (hwt : s.Wt) (ho : s.on = true) (hk : (k : Int) < a) (hl : (l : Int) < b) (HRW : Hid ((RW : Int) = c + 16)) (hfl8 : fs.length ≤ 8) (hcu : Hid (s.cutB = true)) (hfb : failsB fs (k : Int) (s.k (k : Int) 2) = true) : Calls Try.prog 33 #[.pointer (some ⟨m, 0, none⟩), .agg #[.int .i64 (k : Int), .int .i64 (l : Int)], .slice A RW cA] w fun e' w' => e' = .returned (.int .i64 9) ∧ RefW w' m gB gN gW gD L Af nf cf a b c d e fs s.tick ∧ Tch (fun g => g = m) w w' := by
  have ht : Hid (thereB a b (k : Int) (l : Int) = true) := Lib.hid (by unfold thereB withinB; simp; omega)
  have HK := Lib.hid hk
  have tk : ∀ j : Nat, s.tick.k (k : Int) j = s.k (k : Int) j := fun j => by unfold ChS.k; rw [tick_K]
  obtain ⟨v2, hv2⟩ : ∃ v, s.tick.k (k : Int) 2 = v := ⟨_, rfl⟩
  obtain ⟨v0, hv0⟩ : ∃ v, s.tick.k (k : Int) 0 = v := ⟨_, rfl⟩
  have HV2 := Lib.hid hv2
  have HV0 := Lib.hid hv0
  have HFL : Hid (failsB fs (k : Int) v2 = true) := Lib.hid (by rw [← hv2, tk]; exact hfb)
  clear hv2 hv0 tk hk hl
  have HM := Lib.hid (planMay_bd hC.may).1
  have hmw := hC.lt
  have HB0 : Below w.heap.size w (w.alloc (.cells #[.int .i64 (k : Int), .int .i64 (l : Int)] 27)) := (Below.refl _ _).alloc (Nat.le_refl _) _
  have G1 : Blk (w.alloc (.cells #[.int .i64 (k : Int), .int .i64 (l : Int)] 27)) w.heap.size 27 #[.int .i64 (k : Int), .int .i64 (l : Int)] := Blk.new_ _ _ _
  have z0 : (w.alloc (.cells #[.int .i64 (k : Int), .int .i64 (l : Int)] 27)).cell? ⟨w.heap.size, 0, none⟩ = some (.int .i64 (k : Int)) := G1.cell_ 0
  have z1 : (w.alloc (.cells #[.int .i64 (k : Int), .int .i64 (l : Int)] 27)).cell? ⟨w.heap.size, 1, none⟩ = some (.int .i64 (l : Int)) := G1.cell_ 1
  have hC := hC.below HB0
  obtain ⟨NP, NB, RWc, cB, HCC⟩ := hC.cells
  have y0 := HCC.y0; have y1 := HCC.y1; have y2 := HCC.y2; have y3 := HCC.y3; have y4 := HCC.y4; have y12 := HCC.y12
  have hnm : ¬ w.heap.size = m := by omega
  rw [show (!s.on) = false by rw [ho]; rfl] at y12
  clear ho
  go_enter Try.func33, Try.ntmps33
  go_upto_region 3 with fail
  refine wp_region_noPanic ?_
  refine wp_region_held_drew (S := (fun w' => w'.cell? ⟨m, 0, none⟩ = some (.int .i64 a) ∧ w'.cell? ⟨m, 1, none⟩ = some (.int .i64 b) ∧ w'.cell? ⟨m, 2, none⟩ = some (.int .i64 c) ∧ w'.cell? ⟨m, 3, none⟩ = some (.int .i64 d) ∧ w'.cell? ⟨m, 4, none⟩ = some (.int .i64 e) ∧ w'.cell? ⟨w.heap.size, 0, none⟩ = some (.int .i64 (k : Int)) ∧ w'.cell? ⟨w.heap.size, 1, none⟩ = some (.int .i64 (l : Int)))) (by kernel_rfl) ?_ (fun hHeld => ?_)
  · (first | exact ⟨y0, y1, y2, y3, y4, z0, z1⟩ | assumption)
  refine tk 0 ⟨some 15, .move (.tmp 0), 30, "ref.go:79", #[], none⟩ ?_; try simp only [Act.put, pz1, pz2, pz3]
  refine tk 1 ⟨some 16, .nilCheck (.tmp 15), 0, "ref.go:79", #[⟨0, .data⟩], none⟩ ?_; try simp only [Act.put, pz1, pz2, pz3]
  refine tk 2 ⟨some 17, .fieldAddr 94 (.tmp 16) 0, 0, "ref.go:79", #[⟨1, .data⟩], none⟩ ?_; try simp only [Act.put, pz1, pz2, pz3]
  refine tk 3 ⟨some 18, .load 23 (.tmp 17), 23, "ref.go:79", #[⟨2, .data⟩], none⟩ ?_; try simp only [Act.put, pz1, pz2, pz3]
  refine tk 4 ⟨some 19, .load 27 (.tmp 4), 27, "ref.go:79", #[], none⟩ ?_; try simp only [Act.put, pz1, pz2, pz3]
  refine wpAnyH_ready (rs := [5]) (by kernel_rfl) (by simp) ?_
  refine AllReadyH.cons (o := ⟨some 20, .call { callee := .value (.func 43), args := #[.tmp 18, .tmp 19], argTypes := #[23, 27] }, 4, "ref.go:79", #[⟨3, .data⟩, ⟨4, .data⟩], none⟩) rfl (fun K hK => ?_) AllReadyH.nil
  go_simp
  (first | (go_at_call 43; ((with_reducible refine (rthr_b _ _ _ _ _ (k : Int) (l : Int) _ _ HM ht).mono ?_); rintro e' wN ⟨rfl, hb⟩; (try have hb := undrew hb); replace hC := RefW.likeB hC hb; replace HB0 := btr HB0 HB0.size hb; replace G1 := G1.below hb G1.lt; replace HCC := RefC.below HCC hb; clear z0 z1; clear y0 y1 y2 y3 y4 y12; have z0 := G1.cell_ 0; have z1 := G1.cell_ 1; simp at z0 z1; have y0 := HCC.y0; have y1 := HCC.y1; have y2 := HCC.y2; have y3 := HCC.y3; have y4 := HCC.y4; have y12 := HCC.y12)) | (go_at_call 60; ((with_reducible refine (rraw_b _ _ _ _ _ RW _ HM HRW).mono ?_); rintro e' wN ⟨rfl, hb⟩; (try have hb := undrew hb); replace hC := RefW.likeB hC hb; replace HB0 := btr HB0 HB0.size hb; replace G1 := G1.below hb G1.lt; replace HCC := RefC.below HCC hb; clear z0 z1; clear y0 y1 y2 y3 y4 y12; have z0 := G1.cell_ 0; have z1 := G1.cell_ 1; simp at z0 z1; have y0 := HCC.y0; have y1 := HCC.y1; have y2 := HCC.y2; have y3 := HCC.y3; have y4 := HCC.y4; have y12 := HCC.y12)))
  go_wp2_with fail
  refine hK.out _ _ ?_ (fun hNew => ?_)
  · (first | exact ⟨y0, y1, y2, y3, y4, z0, z1⟩ | assumption)
  clear hK K hHeld
  have hHeld := hNew
  clear hNew
  try simp only [Act.put, pz1, pz2, pz3]
  refine tk 6 ⟨some 21, .unOp .not 4 (.tmp 20), 4, "ref.go:79", #[⟨5, .data⟩], none⟩ ?_; try simp only [Act.put, pz1, pz2, pz3]
  refine tk 7 ⟨some 22, .move (.tmp 21), 4, "ref.go:79", #[⟨6, .data⟩, ⟨5, .chain⟩], none⟩ ?_; try simp only [Act.put, pz1, pz2, pz3]
  refine tk 8 ⟨some 23, .move (.tmp 2), 38, "ref.go:79", #[⟨7, .guard⟩], some (7, false)⟩ ?_; try simp only [Act.put, pz1, pz2, pz3]
  refine tk 9 ⟨some 24, .call { callee := .builtin .len, args := #[.tmp 23], argTypes := #[38] }, 3, "ref.go:79", #[⟨8, .data⟩, ⟨7, .guard⟩], some (7, false)⟩ ?_; try simp only [Act.put, pz1, pz2, pz3]
  refine tk 10 ⟨some 25, .move (.tmp 0), 30, "ref.go:79", #[⟨7, .guard⟩], some (7, false)⟩ ?_; try simp only [Act.put, pz1, pz2, pz3]
  refine tk 11 ⟨some 26, .nilCheck (.tmp 25), 0, "ref.go:79", #[⟨10, .data⟩, ⟨7, .guard⟩], some (7, false)⟩ ?_; try simp only [Act.put, pz1, pz2, pz3]
  refine tk 12 ⟨some 27, .fieldAddr 94 (.tmp 26) 0, 0, "ref.go:79", #[⟨11, .data⟩, ⟨7, .guard⟩], some (7, false)⟩ ?_; try simp only [Act.put, pz1, pz2, pz3]
  refine tk 13 ⟨some 28, .load 23 (.tmp 27), 23, "ref.go:79", #[⟨12, .data⟩, ⟨7, .guard⟩], some (7, false)⟩ ?_; try simp only [Act.put, pz1, pz2, pz3]
  refine wpAnyH_ready (rs := [14]) (by kernel_rfl) (by simp) ?_
  refine AllReadyH.cons (o := ⟨some 29, .call { callee := .value (.func 60), args := #[.tmp 28], argTypes := #[23] }, 3, "ref.go:79", #[⟨13, .data⟩, ⟨7, .chain⟩, ⟨7, .guard⟩], some (7, false)⟩) rfl (fun K hK => ?_) AllReadyH.nil
  go_simp
  (first | (go_at_call 43; ((with_reducible refine (rthr_b _ _ _ _ _ (k : Int) (l : Int) _ _ HM ht).mono ?_); rintro e' wN ⟨rfl, hb⟩; (try have hb := undrew hb); replace hC := RefW.likeB hC hb; replace HB0 := btr HB0 HB0.size hb; replace G1 := G1.below hb G1.lt; replace HCC := RefC.below HCC hb; clear z0 z1; clear y0 y1 y2 y3 y4 y12; have z0 := G1.cell_ 0; have z1 := G1.cell_ 1; simp at z0 z1; have y0 := HCC.y0; have y1 := HCC.y1; have y2 := HCC.y2; have y3 := HCC.y3; have y4 := HCC.y4; have y12 := HCC.y12)) | (go_at_call 60; ((with_reducible refine (rraw_b _ _ _ _ _ RW _ HM HRW).mono ?_); rintro e' wN ⟨rfl, hb⟩; (try have hb := undrew hb); replace hC := RefW.likeB hC hb; replace HB0 := btr HB0 HB0.size hb; replace G1 := G1.below hb G1.lt; replace HCC := RefC.below HCC hb; clear z0 z1; clear y0 y1 y2 y3 y4 y12; have z0 := G1.cell_ 0; have z1 := G1.cell_ 1; simp at z0 z1; have y0 := HCC.y0; have y1 := HCC.y1; have y2 := HCC.y2; have y3 := HCC.y3; have y4 := HCC.y4; have y12 := HCC.y12)))
  go_wp2_with fail
  refine hK.out _ _ ?_ (fun hNew => ?_)
  · (first | exact ⟨y0, y1, y2, y3, y4, z0, z1⟩ | assumption)
  clear hK K hHeld
  have hHeld := hNew
  clear hNew
  try simp only [Act.put, pz1, pz2, pz3]
  refine tk 15 ⟨some 30, .binOp .neq 3 (.tmp 24) (.tmp 29) 3, 4, "ref.go:79", #[⟨9, .data⟩, ⟨14, .data⟩, ⟨7, .guard⟩], some (7, false)⟩ ?_; try simp only [Act.put, pz1, pz2, pz3]
  refine tk 16 ⟨some 31, .pick (.tmp 22) (.const (.bool true)) (.tmp 30), 4, "ref.go:79", #[⟨7, .data⟩, ⟨15, .data⟩], none⟩ ?_; try simp only [Act.put, pz1, pz2, pz3]
  refine wpAnyH_done (by kernel_rfl) ?_ _
  refine NoPanic.normal ?_
  go_upto_region 7 with (go_at_call 61; ((with_reducible refine (rturn_b _ _ _ _ _ _ _ _ _ _ _ _ _ _ _ _ _ _ _ hC hbn (by omega) hwt hcu).mono ?_); rintro e' wN ⟨rfl, hC2, hT⟩; have HT := (Tch.of_below (S := fun g => g = m) HB0).trans (Tch.like0 hT); have hlt0 := hT.far w.heap.size G1.lt hnm; replace G1 : Blk wN w.heap.size _ _ := hlt0.trans G1; clear hlt0 hC HCC; have hC := hC2; clear hC2 z0 z1; clear y0 y1 y2 y3 y4 y12; have z0 := G1.cell_ 0; have z1 := G1.cell_ 1; simp at z0 z1))
  obtain ⟨NP, NB, RWc, cB, HCC⟩ := hC.cells
  have y0 := HCC.y0; have y1 := HCC.y1; have y2 := HCC.y2; have y3 := HCC.y3; have y4 := HCC.y4; have y5 := HCC.y5; have y6 := HCC.y6; have y7 := HCC.y7; have y9 := HCC.y9; have y15 := HCC.y15
  have i0 : (0 : Int) ≤ (k : Int) := by omega
  have i1 : (k : Int) < (NB : Int) := by have := HCC.hNB.out; have := HK.out; omega
  have cD := HCC.n2 k (by omega)
  have cX := HCC.n0 k (by omega)
  rw [HV2.out] at cD
  rw [HV0.out] at cX
  refine wp_region_noPanic ?_
  refine wp_region_held_drew (S := (fun w' => w'.cell? ⟨m, 5, none⟩ = some (.slice Af nf cf) ∧ w'.cell? ⟨m, 9, none⟩ = some (.slice (some ⟨gD, 0, none⟩) NB NB) ∧ w'.cell? ⟨w.heap.size, 0, none⟩ = some (.int .i64 (k : Int)) ∧ w'.cell? ⟨gD, k, none⟩ = some (.int .i64 v2))) (by kernel_rfl) ?_ (fun hHeld => ?_)
  · (first | exact ⟨y5, y9, z0, cD⟩ | assumption)
  refine tk 0 ⟨some 35, .move (.tmp 0), 30, "ref.go:85", #[], none⟩ ?_; try simp only [Act.put, pz1, pz2, pz3]
  refine tk 1 ⟨some 36, .nilCheck (.tmp 35), 0, "ref.go:85", #[⟨0, .data⟩], none⟩ ?_; try simp only [Act.put, pz1, pz2, pz3]
  refine tk 2 ⟨some 37, .fieldAddr 94 (.tmp 36) 1, 0, "ref.go:85", #[⟨1, .data⟩], none⟩ ?_; try simp only [Act.put, pz1, pz2, pz3]
  refine tk 3 ⟨some 38, .load 24 (.tmp 37), 24, "ref.go:85", #[⟨2, .data⟩], none⟩ ?_; try simp only [Act.put, pz1, pz2, pz3]
  refine tk 4 ⟨some 39, .fieldAddr 27 (.tmp 4) 0, 0, "ref.go:85", #[], none⟩ ?_; try simp only [Act.put, pz1, pz2, pz3]
  refine tk 5 ⟨some 40, .load 3 (.tmp 39), 3, "ref.go:85", #[⟨4, .data⟩], none⟩ ?_; try simp only [Act.put, pz1, pz2, pz3]
  refine tk 6 ⟨some 41, .move (.tmp 0), 30, "ref.go:85", #[], none⟩ ?_; try simp only [Act.put, pz1, pz2, pz3]
  refine tk 7 ⟨some 42, .nilCheck (.tmp 41), 0, "ref.go:85", #[⟨6, .data⟩], none⟩ ?_; try simp only [Act.put, pz1, pz2, pz3]
  refine tk 8 ⟨some 43, .fieldAddr 94 (.tmp 42) 5, 0, "ref.go:85", #[⟨7, .data⟩], none⟩ ?_; try simp only [Act.put, pz1, pz2, pz3]
  refine tk 9 ⟨some 44, .load 92 (.tmp 43), 92, "ref.go:85", #[⟨8, .data⟩], none⟩ ?_; try simp only [Act.put, pz1, pz2, pz3]
  refine tk 10 ⟨some 45, .fieldAddr 27 (.tmp 4) 0, 0, "ref.go:85", #[], none⟩ ?_; try simp only [Act.put, pz1, pz2, pz3]
  refine tk 11 ⟨some 46, .load 3 (.tmp 45), 3, "ref.go:85", #[⟨10, .data⟩], none⟩ ?_; try simp only [Act.put, pz1, pz2, pz3]
  refine tk 12 ⟨some 47, .indexAddr 92 (.tmp 44) (.tmp 46), 0, "ref.go:85", #[⟨9, .data⟩, ⟨11, .data⟩], none⟩ ?_; try simp only [Act.put, pz1, pz2, pz3]
  refine tk 13 ⟨some 48, .load 3 (.tmp 47), 3, "ref.go:85", #[⟨12, .data⟩], none⟩ ?_; try simp only [Act.put, pz1, pz2, pz3]
  refine wpAnyH_ready (rs := [14]) (by kernel_rfl) (by simp) ?_
  refine AllReadyH.cons (o := ⟨some 49, .call { callee := .value (.func 62), args := #[.tmp 38, .tmp 40, .tmp 48], argTypes := #[24, 3, 3] }, 4, "ref.go:85", #[⟨3, .data⟩, ⟨5, .data⟩, ⟨13, .data⟩], none⟩) rfl (fun K hK => ?_) AllReadyH.nil
  go_simp
  (go_at_call 62; ((with_reducible refine (rpfails_b fs Af nf cf _ _ _ _ (by first | exact hC.flt.sl | exact (RefW.drew hC).flt.sl) hC.nf (by omega) HFL).mono ?_); rintro e' wN ⟨rfl, hb⟩; (try have hb := undrew hb); replace hC := RefW.likeB hC hb; replace HT := Tch.thenB HT hb; replace G1 := G1.below hb G1.lt; replace HCC := RefC.below HCC hb; replace cD := cellOf hb cD; replace cX := cellOf hb cX; clear z0 z1; clear y0 y1 y2 y3 y4 y5 y6 y7 y9 y15; have z0 := G1.cell_ 0; have z1 := G1.cell_ 1; simp at z0 z1; have y0 := HCC.y0; have y1 := HCC.y1; have y2 := HCC.y2; have y3 := HCC.y3; have y4 := HCC.y4; have y5 := HCC.y5; have y6 := HCC.y6; have y7 := HCC.y7; have y9 := HCC.y9; have y15 := HCC.y15))
  go_wp2_with fail
  refine hK.out _ _ ?_ (fun hNew => ?_)
  · (first | exact ⟨y5, y9, z0, cD⟩ | assumption)
  clear hK K hHeld
  have hHeld := hNew
  clear hNew
  try simp only [Act.put, pz1, pz2, pz3]
  refine tk 15 ⟨some 34, .assign (.tmp 49), 4, "ref.go:85", #[⟨14, .data⟩, ⟨14, .chain⟩], none⟩ ?_; try simp only [Act.put, pz1, pz2, pz3]
  refine wpAnyH_done (by kernel_rfl) ?_ _
  refine NoPanic.normal ?_
  go_wp2_with fail
  go_ret
  exact ⟨rfl, (by first | exact hC | exact hC.like), (by first | exact HT | exact HT.like)⟩
theorem rprog_fail (m gB gN gW gD L : Nat) (Af : Option Addr) (nf cf : Nat) (a b c d e : Int) (fs : List Flt) (k l : Nat) (n : Int) (A : Option Addr) (cA RW : Nat) (w : World) (s : ChS) (hC : RefW w m gB gN gW gD L Af nf cf a b c d e fs s) (hbn : s.Bnd n) (hn : n ≤ 900000000) (hwt : s.Wt) (ho : s.on = true) (hk : (k : Int) < a) (hl : (l : Int) < b) (HRW : Hid ((RW : Int) = c + 16)) (hfl8 : fs.length ≤ 8) (hcu : Hid (s.cutB = false)) (hfb : failsB fs (k : Int) (s.k (k : Int) 2) = true) : Calls Try.prog 33 #[.pointer (some ⟨m, 0, none⟩), .agg #[.int .i64 (k : Int), .int .i64 (l : Int)], .slice A RW cA] w fun e' w' => e' = .returned (.int .i64 10) ∧ RefW w' m gB gN gW gD L Af nf cf a b c d e fs s.tick ∧ Tch (fun g => g = m) w w' := by
  have ht : Hid (thereB a b (k : Int) (l : Int) = true) := Lib.hid (by unfold thereB withinB; simp; omega)
  have HK := Lib.hid hk
  have tk : ∀ j : Nat, s.tick.k (k : Int) j = s.k (k : Int) j := fun j => by unfold ChS.k; rw [tick_K]
  obtain ⟨v2, hv2⟩ : ∃ v, s.tick.k (k : Int) 2 = v := ⟨_, rfl⟩
  obtain ⟨v0, hv0⟩ : ∃ v, s.tick.k (k : Int) 0 = v := ⟨_, rfl⟩
  have HV2 := Lib.hid hv2
  have HV0 := Lib.hid hv0
  have HFL : Hid (failsB fs (k : Int) v2 = true) := Lib.hid (by rw [← hv2, tk]; exact hfb)
  clear hv2 hv0 tk hk hl
  have HM := Lib.hid (planMay_bd hC.may).1
  have hmw := hC.lt
  have HB0 : Below w.heap.size w (w.alloc (.cells #[.int .i64 (k : Int), .int .i64 (l : Int)] 27)) := (Below.refl _ _).alloc (Nat.le_refl _) _
  have G1 : Blk (w.alloc (.cells #[.int .i64 (k : Int), .int .i64 (l : Int)] 27)) w.heap.size 27 #[.int .i64 (k : Int), .int .i64 (l : Int)] := Blk.new_ _ _ _
  have z0 : (w.alloc (.cells #[.int .i64 (k : Int), .int .i64 (l : Int)] 27)).cell? ⟨w.heap.size, 0, none⟩ = some (.int .i64 (k : Int)) := G1.cell_ 0
  have z1 : (w.alloc (.cells #[.int .i64 (k : Int), .int .i64 (l : Int)] 27)).cell? ⟨w.heap.size, 1, none⟩ = some (.int .i64 (l : Int)) := G1.cell_ 1
  have hC := hC.below HB0
  obtain ⟨NP, NB, RWc, cB, HCC⟩ := hC.cells
  have y0 := HCC.y0; have y1 := HCC.y1; have y2 := HCC.y2; have y3 := HCC.y3; have y4 := HCC.y4; have y12 := HCC.y12
  have hnm : ¬ w.heap.size = m := by omega
  rw [show (!s.on) = false by rw [ho]; rfl] at y12
  clear ho
  go_enter Try.func33, Try.ntmps33
  go_upto_region 3 with fail
  refine wp_region_noPanic ?_
  refine wp_region_held_drew (S := (fun w' => w'.cell? ⟨m, 0, none⟩ = some (.int .i64 a) ∧ w'.cell? ⟨m, 1, none⟩ = some (.int .i64 b) ∧ w'.cell? ⟨m, 2, none⟩ = some (.int .i64 c) ∧ w'.cell? ⟨m, 3, none⟩ = some (.int .i64 d) ∧ w'.cell? ⟨m, 4, none⟩ = some (.int .i64 e) ∧ w'.cell? ⟨w.heap.size, 0, none⟩ = some (.int .i64 (k : Int)) ∧ w'.cell? ⟨w.heap.size, 1, none⟩ = some (.int .i64 (l : Int)))) (by kernel_rfl) ?_ (fun hHeld => ?_)
  · (first | exact ⟨y0, y1, y2, y3, y4, z0, z1⟩ | assumption)
  refine tk 0 ⟨some 15, .move (.tmp 0), 30, "ref.go:79", #[], none⟩ ?_; try simp only [Act.put, pz1, pz2, pz3]
  refine tk 1 ⟨some 16, .nilCheck (.tmp 15), 0, "ref.go:79", #[⟨0, .data⟩], none⟩ ?_; try simp only [Act.put, pz1, pz2, pz3]
  refine tk 2 ⟨some 17, .fieldAddr 94 (.tmp 16) 0, 0, "ref.go:79", #[⟨1, .data⟩], none⟩ ?_; try simp only [Act.put, pz1, pz2, pz3]
  refine tk 3 ⟨some 18, .load 23 (.tmp 17), 23, "ref.go:79", #[⟨2, .data⟩], none⟩ ?_; try simp only [Act.put, pz1, pz2, pz3]
  refine tk 4 ⟨some 19, .load 27 (.tmp 4), 27, "ref.go:79", #[], none⟩ ?_; try simp only [Act.put, pz1, pz2, pz3]
  refine wpAnyH_ready (rs := [5]) (by kernel_rfl) (by simp) ?_
  refine AllReadyH.cons (o := ⟨some 20, .call { callee := .value (.func 43), args := #[.tmp 18, .tmp 19], argTypes := #[23, 27] }, 4, "ref.go:79", #[⟨3, .data⟩, ⟨4, .data⟩], none⟩) rfl (fun K hK => ?_) AllReadyH.nil
  go_simp
  (first | (go_at_call 43; ((with_reducible refine (rthr_b _ _ _ _ _ (k : Int) (l : Int) _ _ HM ht).mono ?_); rintro e' wN ⟨rfl, hb⟩; (try have hb := undrew hb); replace hC := RefW.likeB hC hb; replace HB0 := btr HB0 HB0.size hb; replace G1 := G1.below hb G1.lt; replace HCC := RefC.below HCC hb; clear z0 z1; clear y0 y1 y2 y3 y4 y12; have z0 := G1.cell_ 0; have z1 := G1.cell_ 1; simp at z0 z1; have y0 := HCC.y0; have y1 := HCC.y1; have y2 := HCC.y2; have y3 := HCC.y3; have y4 := HCC.y4; have y12 := HCC.y12)) | (go_at_call 60; ((with_reducible refine (rraw_b _ _ _ _ _ RW _ HM HRW).mono ?_); rintro e' wN ⟨rfl, hb⟩; (try have hb := undrew hb); replace hC := RefW.likeB hC hb; replace HB0 := btr HB0 HB0.size hb; replace G1 := G1.below hb G1.lt; replace HCC := RefC.below HCC hb; clear z0 z1; clear y0 y1 y2 y3 y4 y12; have z0 := G1.cell_ 0; have z1 := G1.cell_ 1; simp at z0 z1; have y0 := HCC.y0; have y1 := HCC.y1; have y2 := HCC.y2; have y3 := HCC.y3; have y4 := HCC.y4; have y12 := HCC.y12)))
  go_wp2_with fail
  refine hK.out _ _ ?_ (fun hNew => ?_)
  · (first | exact ⟨y0, y1, y2, y3, y4, z0, z1⟩ | assumption)
  clear hK K hHeld
  have hHeld := hNew
  clear hNew
  try simp only [Act.put, pz1, pz2, pz3]
  refine tk 6 ⟨some 21, .unOp .not 4 (.tmp 20), 4, "ref.go:79", #[⟨5, .data⟩], none⟩ ?_; try simp only [Act.put, pz1, pz2, pz3]
  refine tk 7 ⟨some 22, .move (.tmp 21), 4, "ref.go:79", #[⟨6, .data⟩, ⟨5, .chain⟩], none⟩ ?_; try simp only [Act.put, pz1, pz2, pz3]
  refine tk 8 ⟨some 23, .move (.tmp 2), 38, "ref.go:79", #[⟨7, .guard⟩], some (7, false)⟩ ?_; try simp only [Act.put, pz1, pz2, pz3]
  refine tk 9 ⟨some 24, .call { callee := .builtin .len, args := #[.tmp 23], argTypes := #[38] }, 3, "ref.go:79", #[⟨8, .data⟩, ⟨7, .guard⟩], some (7, false)⟩ ?_; try simp only [Act.put, pz1, pz2, pz3]
  refine tk 10 ⟨some 25, .move (.tmp 0), 30, "ref.go:79", #[⟨7, .guard⟩], some (7, false)⟩ ?_; try simp only [Act.put, pz1, pz2, pz3]
  refine tk 11 ⟨some 26, .nilCheck (.tmp 25), 0, "ref.go:79", #[⟨10, .data⟩, ⟨7, .guard⟩], some (7, false)⟩ ?_; try simp only [Act.put, pz1, pz2, pz3]
  refine tk 12 ⟨some 27, .fieldAddr 94 (.tmp 26) 0, 0, "ref.go:79", #[⟨11, .data⟩, ⟨7, .guard⟩], some (7, false)⟩ ?_; try simp only [Act.put, pz1, pz2, pz3]
  refine tk 13 ⟨some 28, .load 23 (.tmp 27), 23, "ref.go:79", #[⟨12, .data⟩, ⟨7, .guard⟩], some (7, false)⟩ ?_; try simp only [Act.put, pz1, pz2, pz3]
  refine wpAnyH_ready (rs := [14]) (by kernel_rfl) (by simp) ?_
  refine AllReadyH.cons (o := ⟨some 29, .call { callee := .value (.func 60), args := #[.tmp 28], argTypes := #[23] }, 3, "ref.go:79", #[⟨13, .data⟩, ⟨7, .chain⟩, ⟨7, .guard⟩], some (7, false)⟩) rfl (fun K hK => ?_) AllReadyH.nil
  go_simp
  (first | (go_at_call 43; ((with_reducible refine (rthr_b _ _ _ _ _ (k : Int) (l : Int) _ _ HM ht).mono ?_); rintro e' wN ⟨rfl, hb⟩; (try have hb := undrew hb); replace hC := RefW.likeB hC hb; replace HB0 := btr HB0 HB0.size hb; replace G1 := G1.below hb G1.lt; replace HCC := RefC.below HCC hb; clear z0 z1; clear y0 y1 y2 y3 y4 y12; have z0 := G1.cell_ 0; have z1 := G1.cell_ 1; simp at z0 z1; have y0 := HCC.y0; have y1 := HCC.y1; have y2 := HCC.y2; have y3 := HCC.y3; have y4 := HCC.y4; have y12 := HCC.y12)) | (go_at_call 60; ((with_reducible refine (rraw_b _ _ _ _ _ RW _ HM HRW).mono ?_); rintro e' wN ⟨rfl, hb⟩; (try have hb := undrew hb); replace hC := RefW.likeB hC hb; replace HB0 := btr HB0 HB0.size hb; replace G1 := G1.below hb G1.lt; replace HCC := RefC.below HCC hb; clear z0 z1; clear y0 y1 y2 y3 y4 y12; have z0 := G1.cell_ 0; have z1 := G1.cell_ 1; simp at z0 z1; have y0 := HCC.y0; have y1 := HCC.y1; have y2 := HCC.y2; have y3 := HCC.y3; have y4 := HCC.y4; have y12 := HCC.y12)))
  go_wp2_with fail
  refine hK.out _ _ ?_ (fun hNew => ?_)
  · (first | exact ⟨y0, y1, y2, y3, y4, z0, z1⟩ | assumption)
  clear hK K hHeld
  have hHeld := hNew
  clear hNew
  try simp only [Act.put, pz1, pz2, pz3]
  refine tk 15 ⟨some 30, .binOp .neq 3 (.tmp 24) (.tmp 29) 3, 4, "ref.go:79", #[⟨9, .data⟩, ⟨14, .data⟩, ⟨7, .guard⟩], some (7, false)⟩ ?_; try simp only [Act.put, pz1, pz2, pz3]
  refine tk 16 ⟨some 31, .pick (.tmp 22) (.const (.bool true)) (.tmp 30), 4, "ref.go:79", #[⟨7, .data⟩, ⟨15, .data⟩], none⟩ ?_; try simp only [Act.put, pz1, pz2, pz3]
  refine wpAnyH_done (by kernel_rfl) ?_ _
  refine NoPanic.normal ?_
  go_upto_region 7 with (go_at_call 61; ((with_reducible refine (rturn_b _ _ _ _ _ _ _ _ _ _ _ _ _ _ _ _ _ _ _ hC hbn (by omega) hwt hcu).mono ?_); rintro e' wN ⟨rfl, hC2, hT⟩; have HT := (Tch.of_below (S := fun g => g = m) HB0).trans (Tch.like0 hT); have hlt0 := hT.far w.heap.size G1.lt hnm; replace G1 : Blk wN w.heap.size _ _ := hlt0.trans G1; clear hlt0 hC HCC; have hC := hC2; clear hC2 z0 z1; clear y0 y1 y2 y3 y4 y12; have z0 := G1.cell_ 0; have z1 := G1.cell_ 1; simp at z0 z1))
  obtain ⟨NP, NB, RWc, cB, HCC⟩ := hC.cells
  have y0 := HCC.y0; have y1 := HCC.y1; have y2 := HCC.y2; have y3 := HCC.y3; have y4 := HCC.y4; have y5 := HCC.y5; have y6 := HCC.y6; have y7 := HCC.y7; have y9 := HCC.y9; have y15 := HCC.y15
  have i0 : (0 : Int) ≤ (k : Int) := by omega
  have i1 : (k : Int) < (NB : Int) := by have := HCC.hNB.out; have := HK.out; omega
  have cD := HCC.n2 k (by omega)
  have cX := HCC.n0 k (by omega)
  rw [HV2.out] at cD
  rw [HV0.out] at cX
  refine wp_region_noPanic ?_
  refine wp_region_held_drew (S := (fun w' => w'.cell? ⟨m, 5, none⟩ = some (.slice Af nf cf) ∧ w'.cell? ⟨m, 9, none⟩ = some (.slice (some ⟨gD, 0, none⟩) NB NB) ∧ w'.cell? ⟨w.heap.size, 0, none⟩ = some (.int .i64 (k : Int)) ∧ w'.cell? ⟨gD, k, none⟩ = some (.int .i64 v2))) (by kernel_rfl) ?_ (fun hHeld => ?_)
  · (first | exact ⟨y5, y9, z0, cD⟩ | assumption)
  refine tk 0 ⟨some 35, .move (.tmp 0), 30, "ref.go:85", #[], none⟩ ?_; try simp only [Act.put, pz1, pz2, pz3]
  refine tk 1 ⟨some 36, .nilCheck (.tmp 35), 0, "ref.go:85", #[⟨0, .data⟩], none⟩ ?_; try simp only [Act.put, pz1, pz2, pz3]
  refine tk 2 ⟨some 37, .fieldAddr 94 (.tmp 36) 1, 0, "ref.go:85", #[⟨1, .data⟩], none⟩ ?_; try simp only [Act.put, pz1, pz2, pz3]
  refine tk 3 ⟨some 38, .load 24 (.tmp 37), 24, "ref.go:85", #[⟨2, .data⟩], none⟩ ?_; try simp only [Act.put, pz1, pz2, pz3]
  refine tk 4 ⟨some 39, .fieldAddr 27 (.tmp 4) 0, 0, "ref.go:85", #[], none⟩ ?_; try simp only [Act.put, pz1, pz2, pz3]
  refine tk 5 ⟨some 40, .load 3 (.tmp 39), 3, "ref.go:85", #[⟨4, .data⟩], none⟩ ?_; try simp only [Act.put, pz1, pz2, pz3]
  refine tk 6 ⟨some 41, .move (.tmp 0), 30, "ref.go:85", #[], none⟩ ?_; try simp only [Act.put, pz1, pz2, pz3]
  refine tk 7 ⟨some 42, .nilCheck (.tmp 41), 0, "ref.go:85", #[⟨6, .data⟩], none⟩ ?_; try simp only [Act.put, pz1, pz2, pz3]
  refine tk 8 ⟨some 43, .fieldAddr 94 (.tmp 42) 5, 0, "ref.go:85", #[⟨7, .data⟩], none⟩ ?_; try simp only [Act.put, pz1, pz2, pz3]
  refine tk 9 ⟨some 44, .load 92 (.tmp 43), 92, "ref.go:85", #[⟨8, .data⟩], none⟩ ?_; try simp only [Act.put, pz1, pz2, pz3]
  refine tk 10 ⟨some 45, .fieldAddr 27 (.tmp 4) 0, 0, "ref.go:85", #[], none⟩ ?_; try simp only [Act.put, pz1, pz2, pz3]
  refine tk 11 ⟨some 46, .load 3 (.tmp 45), 3, "ref.go:85", #[⟨10, .data⟩], none⟩ ?_; try simp only [Act.put, pz1, pz2, pz3]
  refine tk 12 ⟨some 47, .indexAddr 92 (.tmp 44) (.tmp 46), 0, "ref.go:85", #[⟨9, .data⟩, ⟨11, .data⟩], none⟩ ?_; try simp only [Act.put, pz1, pz2, pz3]
  refine tk 13 ⟨some 48, .load 3 (.tmp 47), 3, "ref.go:85", #[⟨12, .data⟩], none⟩ ?_; try simp only [Act.put, pz1, pz2, pz3]
  refine wpAnyH_ready (rs := [14]) (by kernel_rfl) (by simp) ?_
  refine AllReadyH.cons (o := ⟨some 49, .call { callee := .value (.func 62), args := #[.tmp 38, .tmp 40, .tmp 48], argTypes := #[24, 3, 3] }, 4, "ref.go:85", #[⟨3, .data⟩, ⟨5, .data⟩, ⟨13, .data⟩], none⟩) rfl (fun K hK => ?_) AllReadyH.nil
  go_simp
  (go_at_call 62; ((with_reducible refine (rpfails_b fs Af nf cf _ _ _ _ (by first | exact hC.flt.sl | exact (RefW.drew hC).flt.sl) hC.nf (by omega) HFL).mono ?_); rintro e' wN ⟨rfl, hb⟩; (try have hb := undrew hb); replace hC := RefW.likeB hC hb; replace HT := Tch.thenB HT hb; replace G1 := G1.below hb G1.lt; replace HCC := RefC.below HCC hb; replace cD := cellOf hb cD; replace cX := cellOf hb cX; clear z0 z1; clear y0 y1 y2 y3 y4 y5 y6 y7 y9 y15; have z0 := G1.cell_ 0; have z1 := G1.cell_ 1; simp at z0 z1; have y0 := HCC.y0; have y1 := HCC.y1; have y2 := HCC.y2; have y3 := HCC.y3; have y4 := HCC.y4; have y5 := HCC.y5; have y6 := HCC.y6; have y7 := HCC.y7; have y9 := HCC.y9; have y15 := HCC.y15))
  go_wp2_with fail
  refine hK.out _ _ ?_ (fun hNew => ?_)
  · (first | exact ⟨y5, y9, z0, cD⟩ | assumption)
  clear hK K hHeld
  have hHeld := hNew
  clear hNew
  try simp only [Act.put, pz1, pz2, pz3]
  refine tk 15 ⟨some 34, .assign (.tmp 49), 4, "ref.go:85", #[⟨14, .data⟩, ⟨14, .chain⟩], none⟩ ?_; try simp only [Act.put, pz1, pz2, pz3]
  refine wpAnyH_done (by kernel_rfl) ?_ _
  refine NoPanic.normal ?_
  go_wp2_with fail
  go_ret
  exact ⟨rfl, (by first | exact hC | exact hC.like), (by first | exact HT | exact HT.like)⟩
theorem rprog_ordcut (m gB gN gW gD L : Nat) (Af : Option Addr) (nf cf : Nat) (a b c d e : Int) (fs : List Flt) (k l : Nat) (n : Int) (A : Option Addr) (cA RW : Nat) (w : World) (s : ChS) (hC : RefW w m gB gN gW gD L Af nf cf a b c d e fs s) (hbn : s.Bnd n) (hn : n ≤ 900000000) (hwt : s.Wt) (ho : s.on = true) (hk : (k : Int) < a) (hl : (l : Int) < b) (HRW : Hid ((RW : Int) = c + 16)) (hfl8 : fs.length ≤ 8) (hcu : Hid (s.cutB = true)) (hfb : failsB fs (k : Int) (s.k (k : Int) 2) = false) (hln : (l : Int) ≠ s.k (k : Int) 0) : Calls Try.prog 33 #[.pointer (some ⟨m, 0, none⟩), .agg #[.int .i64 (k : Int), .int .i64 (l : Int)], .slice A RW cA] w fun e' w' => e' = .returned (.int .i64 9) ∧ RefW w' m gB gN gW gD L Af nf cf a b c d e fs s.tick ∧ Tch (fun g => g = m) w w' := by
  have ht : Hid (thereB a b (k : Int) (l : Int) = true) := Lib.hid (by unfold thereB withinB; simp; omega)
  have HK := Lib.hid hk
  have tk : ∀ j : Nat, s.tick.k (k : Int) j = s.k (k : Int) j := fun j => by unfold ChS.k; rw [tick_K]
  obtain ⟨v2, hv2⟩ : ∃ v, s.tick.k (k : Int) 2 = v := ⟨_, rfl⟩
  obtain ⟨v0, hv0⟩ : ∃ v, s.tick.k (k : Int) 0 = v := ⟨_, rfl⟩
  have HV2 := Lib.hid hv2
  have HV0 := Lib.hid hv0
  have HFL : Hid (failsB fs (k : Int) v2 = false) := Lib.hid (by rw [← hv2, tk]; exact hfb)
  rw [← tk, hv0] at hln
  have hnq : ((l : Int) != v0) = true := by simp; omega
  have hnp : ((l : Int) == v0) = false := by simp; omega
  clear hln
  clear hv2 hv0 tk hk hl
  have HM := Lib.hid (planMay_bd hC.may).1
  have hmw := hC.lt
  have HB0 : Below w.heap.size w (w.alloc (.cells #[.int .i64 (k : Int), .int .i64 (l : Int)] 27)) := (Below.refl _ _).alloc (Nat.le_refl _) _
  have G1 : Blk (w.alloc (.cells #[.int .i64 (k : Int), .int .i64 (l : Int)] 27)) w.heap.size 27 #[.int .i64 (k : Int), .int .i64 (l : Int)] := Blk.new_ _ _ _
  have z0 : (w.alloc (.cells #[.int .i64 (k : Int), .int .i64 (l : Int)] 27)).cell? ⟨w.heap.size, 0, none⟩ = some (.int .i64 (k : Int)) := G1.cell_ 0
  have z1 : (w.alloc (.cells #[.int .i64 (k : Int), .int .i64 (l : Int)] 27)).cell? ⟨w.heap.size, 1, none⟩ = some (.int .i64 (l : Int)) := G1.cell_ 1
  have hC := hC.below HB0
  obtain ⟨NP, NB, RWc, cB, HCC⟩ := hC.cells
  have y0 := HCC.y0; have y1 := HCC.y1; have y2 := HCC.y2; have y3 := HCC.y3; have y4 := HCC.y4; have y12 := HCC.y12
  have hnm : ¬ w.heap.size = m := by omega
  rw [show (!s.on) = false by rw [ho]; rfl] at y12
  clear ho
  go_enter Try.func33, Try.ntmps33
  go_upto_region 3 with fail
  refine wp_region_noPanic ?_
  refine wp_region_held_drew (S := (fun w' => w'.cell? ⟨m, 0, none⟩ = some (.int .i64 a) ∧ w'.cell? ⟨m, 1, none⟩ = some (.int .i64 b) ∧ w'.cell? ⟨m, 2, none⟩ = some (.int .i64 c) ∧ w'.cell? ⟨m, 3, none⟩ = some (.int .i64 d) ∧ w'.cell? ⟨m, 4, none⟩ = some (.int .i64 e) ∧ w'.cell? ⟨w.heap.size, 0, none⟩ = some (.int .i64 (k : Int)) ∧ w'.cell? ⟨w.heap.size, 1, none⟩ = some (.int .i64 (l : Int)))) (by kernel_rfl) ?_ (fun hHeld => ?_)
  · (first | exact ⟨y0, y1, y2, y3, y4, z0, z1⟩ | assumption)
  refine tk 0 ⟨some 15, .move (.tmp 0), 30, "ref.go:79", #[], none⟩ ?_; try simp only [Act.put, pz1, pz2, pz3]
  refine tk 1 ⟨some 16, .nilCheck (.tmp 15), 0, "ref.go:79", #[⟨0, .data⟩], none⟩ ?_; try simp only [Act.put, pz1, pz2, pz3]
  refine tk 2 ⟨some 17, .fieldAddr 94 (.tmp 16) 0, 0, "ref.go:79", #[⟨1, .data⟩], none⟩ ?_; try simp only [Act.put, pz1, pz2, pz3]
  refine tk 3 ⟨some 18, .load 23 (.tmp 17), 23, "ref.go:79", #[⟨2, .data⟩], none⟩ ?_; try simp only [Act.put, pz1, pz2, pz3]
  refine tk 4 ⟨some 19, .load 27 (.tmp 4), 27, "ref.go:79", #[], none⟩ ?_; try simp only [Act.put, pz1, pz2, pz3]
  refine wpAnyH_ready (rs := [5]) (by kernel_rfl) (by simp) ?_
  refine AllReadyH.cons (o := ⟨some 20, .call { callee := .value (.func 43), args := #[.tmp 18, .tmp 19], argTypes := #[23, 27] }, 4, "ref.go:79", #[⟨3, .data⟩, ⟨4, .data⟩], none⟩) rfl (fun K hK => ?_) AllReadyH.nil
  go_simp
  (first | (go_at_call 43; ((with_reducible refine (rthr_b _ _ _ _ _ (k : Int) (l : Int) _ _ HM ht).mono ?_); rintro e' wN ⟨rfl, hb⟩; (try have hb := undrew hb); replace hC := RefW.likeB hC hb; replace HB0 := btr HB0 HB0.size hb; replace G1 := G1.below hb G1.lt; replace HCC := RefC.below HCC hb; clear z0 z1; clear y0 y1 y2 y3 y4 y12; have z0 := G1.cell_ 0; have z1 := G1.cell_ 1; simp at z0 z1; have y0 := HCC.y0; have y1 := HCC.y1; have y2 := HCC.y2; have y3 := HCC.y3; have y4 := HCC.y4; have y12 := HCC.y12)) | (go_at_call 60; ((with_reducible refine (rraw_b _ _ _ _ _ RW _ HM HRW).mono ?_); rintro e' wN ⟨rfl, hb⟩; (try have hb := undrew hb); replace hC := RefW.likeB hC hb; replace HB0 := btr HB0 HB0.size hb; replace G1 := G1.below hb G1.lt; replace HCC := RefC.below HCC hb; clear z0 z1; clear y0 y1 y2 y3 y4 y12; have z0 := G1.cell_ 0; have z1 := G1.cell_ 1; simp at z0 z1; have y0 := HCC.y0; have y1 := HCC.y1; have y2 := HCC.y2; have y3 := HCC.y3; have y4 := HCC.y4; have y12 := HCC.y12)))
  go_wp2_with fail
  refine hK.out _ _ ?_ (fun hNew => ?_)
  · (first | exact ⟨y0, y1, y2, y3, y4, z0, z1⟩ | assumption)
  clear hK K hHeld
  have hHeld := hNew
  clear hNew
  try simp only [Act.put, pz1, pz2, pz3]
  refine tk 6 ⟨some 21, .unOp .not 4 (.tmp 20), 4, "ref.go:79", #[⟨5, .data⟩], none⟩ ?_; try simp only [Act.put, pz1, pz2, pz3]
  refine tk 7 ⟨some 22, .move (.tmp 21), 4, "ref.go:79", #[⟨6, .data⟩, ⟨5, .chain⟩], none⟩ ?_; try simp only [Act.put, pz1, pz2, pz3]
  refine tk 8 ⟨some 23, .move (.tmp 2), 38, "ref.go:79", #[⟨7, .guard⟩], some (7, false)⟩ ?_; try simp only [Act.put, pz1, pz2, pz3]
  refine tk 9 ⟨some 24, .call { callee := .builtin .len, args := #[.tmp 23], argTypes := #[38] }, 3, "ref.go:79", #[⟨8, .data⟩, ⟨7, .guard⟩], some (7, false)⟩ ?_; try simp only [Act.put, pz1, pz2, pz3]
  refine tk 10 ⟨some 25, .move (.tmp 0), 30, "ref.go:79", #[⟨7, .guard⟩], some (7, false)⟩ ?_; try simp only [Act.put, pz1, pz2, pz3]
  refine tk 11 ⟨some 26, .nilCheck (.tmp 25), 0, "ref.go:79", #[⟨10, .data⟩, ⟨7, .guard⟩], some (7, false)⟩ ?_; try simp only [Act.put, pz1, pz2, pz3]
  refine tk 12 ⟨some 27, .fieldAddr 94 (.tmp 26) 0, 0, "ref.go:79", #[⟨11, .data⟩, ⟨7, .guard⟩], some (7, false)⟩ ?_; try simp only [Act.put, pz1, pz2, pz3]
  refine tk 13 ⟨some 28, .load 23 (.tmp 27), 23, "ref.go:79", #[⟨12, .data⟩, ⟨7, .guard⟩], some (7, false)⟩ ?_; try simp only [Act.put, pz1, pz2, pz3]
  refine wpAnyH_ready (rs := [14]) (by kernel_rfl) (by simp) ?_
  refine AllReadyH.cons (o := ⟨some 29, .call { callee := .value (.func 60), args := #[.tmp 28], argTypes := #[23] }, 3, "ref.go:79", #[⟨13, .data⟩, ⟨7, .chain⟩, ⟨7, .guard⟩], some (7, false)⟩) rfl (fun K hK => ?_) AllReadyH.nil
  go_simp
  (first | (go_at_call 43; ((with_reducible refine (rthr_b _ _ _ _ _ (k : Int) (l : Int) _ _ HM ht).mono ?_); rintro e' wN ⟨rfl, hb⟩; (try have hb := undrew hb); replace hC := RefW.likeB hC hb; replace HB0 := btr HB0 HB0.size hb; replace G1 := G1.below hb G1.lt; replace HCC := RefC.below HCC hb; clear z0 z1; clear y0 y1 y2 y3 y4 y12; have z0 := G1.cell_ 0; have z1 := G1.cell_ 1; simp at z0 z1; have y0 := HCC.y0; have y1 := HCC.y1; have y2 := HCC.y2; have y3 := HCC.y3; have y4 := HCC.y4; have y12 := HCC.y12)) | (go_at_call 60; ((with_reducible refine (rraw_b _ _ _ _ _ RW _ HM HRW).mono ?_); rintro e' wN ⟨rfl, hb⟩; (try have hb := undrew hb); replace hC := RefW.likeB hC hb; replace HB0 := btr HB0 HB0.size hb; replace G1 := G1.below hb G1.lt; replace HCC := RefC.below HCC hb; clear z0 z1; clear y0 y1 y2 y3 y4 y12; have z0 := G1.cell_ 0; have z1 := G1.cell_ 1; simp at z0 z1; have y0 := HCC.y0; have y1 := HCC.y1; have y2 := HCC.y2; have y3 := HCC.y3; have y4 := HCC.y4; have y12 := HCC.y12)))
  go_wp2_with fail
  refine hK.out _ _ ?_ (fun hNew => ?_)
  · (first | exact ⟨y0, y1, y2, y3, y4, z0, z1⟩ | assumption)
  clear hK K hHeld
  have hHeld := hNew
  clear hNew
  try simp only [Act.put, pz1, pz2, pz3]
  refine tk 15 ⟨some 30, .binOp .neq 3 (.tmp 24) (.tmp 29) 3, 4, "ref.go:79", #[⟨9, .data⟩, ⟨14, .data⟩, ⟨7, .guard⟩], some (7, false)⟩ ?_; try simp only [Act.put, pz1, pz2, pz3]
  refine tk 16 ⟨some 31, .pick (.tmp 22) (.const (.bool true)) (.tmp 30), 4, "ref.go:79", #[⟨7, .data⟩, ⟨15, .data⟩], none⟩ ?_; try simp only [Act.put, pz1, pz2, pz3]
  refine wpAnyH_done (by kernel_rfl) ?_ _
  refine NoPanic.normal ?_
  go_upto_region 7 with (go_at_call 61; ((with_reducible refine (rturn_b _ _ _ _ _ _ _ _ _ _ _ _ _ _ _ _ _ _ _ hC hbn (by omega) hwt hcu).mono ?_); rintro e' wN ⟨rfl, hC2, hT⟩; have HT := (Tch.of_below (S := fun g => g = m) HB0).trans (Tch.like0 hT); have hlt0 := hT.far w.heap.size G1.lt hnm; replace G1 : Blk wN w.heap.size _ _ := hlt0.trans G1; clear hlt0 hC HCC; have hC := hC2; clear hC2 z0 z1; clear y0 y1 y2 y3 y4 y12; have z0 := G1.cell_ 0; have z1 := G1.cell_ 1; simp at z0 z1))
  obtain ⟨NP, NB, RWc, cB, HCC⟩ := hC.cells
  have y0 := HCC.y0; have y1 := HCC.y1; have y2 := HCC.y2; have y3 := HCC.y3; have y4 := HCC.y4; have y5 := HCC.y5; have y6 := HCC.y6; have y7 := HCC.y7; have y9 := HCC.y9; have y15 := HCC.y15
  have i0 : (0 : Int) ≤ (k : Int) := by omega
  have i1 : (k : Int) < (NB : Int) := by have := HCC.hNB.out; have := HK.out; omega
  have cD := HCC.n2 k (by omega)
  have cX := HCC.n0 k (by omega)
  rw [HV2.out] at cD
  rw [HV0.out] at cX
  refine wp_region_noPanic ?_
  refine wp_region_held_drew (S := (fun w' => w'.cell? ⟨m, 5, none⟩ = some (.slice Af nf cf) ∧ w'.cell? ⟨m, 9, none⟩ = some (.slice (some ⟨gD, 0, none⟩) NB NB) ∧ w'.cell? ⟨w.heap.size, 0, none⟩ = some (.int .i64 (k : Int)) ∧ w'.cell? ⟨gD, k, none⟩ = some (.int .i64 v2))) (by kernel_rfl) ?_ (fun hHeld => ?_)
  · (first | exact ⟨y5, y9, z0, cD⟩ | assumption)
  refine tk 0 ⟨some 35, .move (.tmp 0), 30, "ref.go:85", #[], none⟩ ?_; try simp only [Act.put, pz1, pz2, pz3]
  refine tk 1 ⟨some 36, .nilCheck (.tmp 35), 0, "ref.go:85", #[⟨0, .data⟩], none⟩ ?_; try simp only [Act.put, pz1, pz2, pz3]
  refine tk 2 ⟨some 37, .fieldAddr 94 (.tmp 36) 1, 0, "ref.go:85", #[⟨1, .data⟩], none⟩ ?_; try simp only [Act.put, pz1, pz2, pz3]
  refine tk 3 ⟨some 38, .load 24 (.tmp 37), 24, "ref.go:85", #[⟨2, .data⟩], none⟩ ?_; try simp only [Act.put, pz1, pz2, pz3]
  refine tk 4 ⟨some 39, .fieldAddr 27 (.tmp 4) 0, 0, "ref.go:85", #[], none⟩ ?_; try simp only [Act.put, pz1, pz2, pz3]
  refine tk 5 ⟨some 40, .load 3 (.tmp 39), 3, "ref.go:85", #[⟨4, .data⟩], none⟩ ?_; try simp only [Act.put, pz1, pz2, pz3]
  refine tk 6 ⟨some 41, .move (.tmp 0), 30, "ref.go:85", #[], none⟩ ?_; try simp only [Act.put, pz1, pz2, pz3]
  refine tk 7 ⟨some 42, .nilCheck (.tmp 41), 0, "ref.go:85", #[⟨6, .data⟩], none⟩ ?_; try simp only [Act.put, pz1, pz2, pz3]
  refine tk 8 ⟨some 43, .fieldAddr 94 (.tmp 42) 5, 0, "ref.go:85", #[⟨7, .data⟩], none⟩ ?_; try simp only [Act.put, pz1, pz2, pz3]
  refine tk 9 ⟨some 44, .load 92 (.tmp 43), 92, "ref.go:85", #[⟨8, .data⟩], none⟩ ?_; try simp only [Act.put, pz1, pz2, pz3]
  refine tk 10 ⟨some 45, .fieldAddr 27 (.tmp 4) 0, 0, "ref.go:85", #[], none⟩ ?_; try simp only [Act.put, pz1, pz2, pz3]
  refine tk 11 ⟨some 46, .load 3 (.tmp 45), 3, "ref.go:85", #[⟨10, .data⟩], none⟩ ?_; try simp only [Act.put, pz1, pz2, pz3]
  refine tk 12 ⟨some 47, .indexAddr 92 (.tmp 44) (.tmp 46), 0, "ref.go:85", #[⟨9, .data⟩, ⟨11, .data⟩], none⟩ ?_; try simp only [Act.put, pz1, pz2, pz3]
  refine tk 13 ⟨some 48, .load 3 (.tmp 47), 3, "ref.go:85", #[⟨12, .data⟩], none⟩ ?_; try simp only [Act.put, pz1, pz2, pz3]
  refine wpAnyH_ready (rs := [14]) (by kernel_rfl) (by simp) ?_
  refine AllReadyH.cons (o := ⟨some 49, .call { callee := .value (.func 62), args := #[.tmp 38, .tmp 40, .tmp 48], argTypes := #[24, 3, 3] }, 4, "ref.go:85", #[⟨3, .data⟩, ⟨5, .data⟩, ⟨13, .data⟩], none⟩) rfl (fun K hK => ?_) AllReadyH.nil
  go_simp
  (go_at_call 62; ((with_reducible refine (rpfails_b fs Af nf cf _ _ _ _ (by first | exact hC.flt.sl | exact (RefW.drew hC).flt.sl) hC.nf (by omega) HFL).mono ?_); rintro e' wN ⟨rfl, hb⟩; (try have hb := undrew hb); replace hC := RefW.likeB hC hb; replace HT := Tch.thenB HT hb; replace G1 := G1.below hb G1.lt; replace HCC := RefC.below HCC hb; replace cD := cellOf hb cD; replace cX := cellOf hb cX; clear z0 z1; clear y0 y1 y2 y3 y4 y5 y6 y7 y9 y15; have z0 := G1.cell_ 0; have z1 := G1.cell_ 1; simp at z0 z1; have y0 := HCC.y0; have y1 := HCC.y1; have y2 := HCC.y2; have y3 := HCC.y3; have y4 := HCC.y4; have y5 := HCC.y5; have y6 := HCC.y6; have y7 := HCC.y7; have y9 := HCC.y9; have y15 := HCC.y15))
  go_wp2_with fail
  refine hK.out _ _ ?_ (fun hNew => ?_)
  · (first | exact ⟨y5, y9, z0, cD⟩ | assumption)
  clear hK K hHeld
  have hHeld := hNew
  clear hNew
  try simp only [Act.put, pz1, pz2, pz3]
  refine tk 15 ⟨some 34, .assign (.tmp 49), 4, "ref.go:85", #[⟨14, .data⟩, ⟨14, .chain⟩], none⟩ ?_; try simp only [Act.put, pz1, pz2, pz3]
  refine wpAnyH_done (by kernel_rfl) ?_ _
  refine NoPanic.normal ?_
  go_upto_region 9 with fail
  refine wp_region_noPanic ?_
  refine wp_region_held_drew (S := (fun w' => w'.cell? ⟨m, 7, none⟩ = some (.slice (some ⟨gN, 0, none⟩) NB NB) ∧ w'.cell? ⟨w.heap.size, 0, none⟩ = some (.int .i64 (k : Int)) ∧ w'.cell? ⟨w.heap.size, 1, none⟩ = some (.int .i64 (l : Int)) ∧ w'.cell? ⟨gN, k, none⟩ = some (.int .i64 v0))) (by kernel_rfl) ?_ (fun hHeld => ?_)
  · (first | exact ⟨y7, z0, z1, cX⟩ | assumption)
  refine tk 0 ⟨some 51, .fieldAddr 27 (.tmp 4) 1, 0, "ref.go:87", #[], none⟩ ?_; try simp only [Act.put, pz1, pz2, pz3]
  refine tk 1 ⟨some 52, .load 3 (.tmp 51), 3, "ref.go:87", #[⟨0, .data⟩], none⟩ ?_; try simp only [Act.put, pz1, pz2, pz3]
  refine tk 2 ⟨some 53, .move (.tmp 0), 30, "ref.go:87", #[], none⟩ ?_; try simp only [Act.put, pz1, pz2, pz3]
  refine tk 3 ⟨some 54, .nilCheck (.tmp 53), 0, "ref.go:87", #[⟨2, .data⟩], none⟩ ?_; try simp only [Act.put, pz1, pz2, pz3]
  refine tk 4 ⟨some 55, .fieldAddr 94 (.tmp 54) 3, 0, "ref.go:87", #[⟨3, .data⟩], none⟩ ?_; try simp only [Act.put, pz1, pz2, pz3]
  refine tk 5 ⟨some 56, .load 92 (.tmp 55), 92, "ref.go:87", #[⟨4, .data⟩], none⟩ ?_; try simp only [Act.put, pz1, pz2, pz3]
  refine tk 6 ⟨some 57, .fieldAddr 27 (.tmp 4) 0, 0, "ref.go:87", #[], none⟩ ?_; try simp only [Act.put, pz1, pz2, pz3]
  refine tk 7 ⟨some 58, .load 3 (.tmp 57), 3, "ref.go:87", #[⟨6, .data⟩], none⟩ ?_; try simp only [Act.put, pz1, pz2, pz3]
  refine tk 8 ⟨some 59, .indexAddr 92 (.tmp 56) (.tmp 58), 0, "ref.go:87", #[⟨5, .data⟩, ⟨7, .data⟩], none⟩ ?_; try simp only [Act.put, pz1, pz2, pz3]
  refine tk 9 ⟨some 60, .load 3 (.tmp 59), 3, "ref.go:87", #[⟨8, .data⟩], none⟩ ?_; try simp only [Act.put, pz1, pz2, pz3]
  refine tk 10 ⟨some 61, .binOp .neq 3 (.tmp 52) (.tmp 60) 3, 4, "ref.go:87", #[⟨1, .data⟩, ⟨9, .data⟩], none⟩ ?_; try simp only [Act.put, pz1, pz2, pz3]
  refine tk 11 ⟨some 50, .assign (.tmp 61), 4, "ref.go:87", #[⟨10, .data⟩], none⟩ ?_; try simp only [Act.put, pz1, pz2, pz3]
  refine wpAnyH_done (by kernel_rfl) ?_ _
  refine NoPanic.normal ?_
  go_wp2_with fail
  go_ret
  exact ⟨rfl, (by first | exact hC | exact hC.like), (by first | exact HT | exact HT.like)⟩
theorem rprog_ord (m gB gN gW gD L : Nat) (Af : Option Addr) (nf cf : Nat) (a b c d e : Int) (fs : List Flt) (k l : Nat) (n : Int) (A : Option Addr) (cA RW : Nat) (w : World) (s : ChS) (hC : RefW w m gB gN gW gD L Af nf cf a b c d e fs s) (hbn : s.Bnd n) (hn : n ≤ 900000000) (hwt : s.Wt) (ho : s.on = true) (hk : (k : Int) < a) (hl : (l : Int) < b) (HRW : Hid ((RW : Int) = c + 16)) (hfl8 : fs.length ≤ 8) (hcu : Hid (s.cutB = false)) (hfb : failsB fs (k : Int) (s.k (k : Int) 2) = false) (hln : (l : Int) ≠ s.k (k : Int) 0) : Calls Try.prog 33 #[.pointer (some ⟨m, 0, none⟩), .agg #[.int .i64 (k : Int), .int .i64 (l : Int)], .slice A RW cA] w fun e' w' => e' = .returned (.int .i64 11) ∧ RefW w' m gB gN gW gD L Af nf cf a b c d e fs s.tick ∧ Tch (fun g => g = m) w w' := by
  have ht : Hid (thereB a b (k : Int) (l : Int) = true) := Lib.hid (by unfold thereB withinB; simp; omega)
  have HK := Lib.hid hk
  have tk : ∀ j : Nat, s.tick.k (k : Int) j = s.k (k : Int) j := fun j => by unfold ChS.k; rw [tick_K]
  obtain ⟨v2, hv2⟩ : ∃ v, s.tick.k (k : Int) 2 = v := ⟨_, rfl⟩
  obtain ⟨v0, hv0⟩ : ∃ v, s.tick.k (k : Int) 0 = v := ⟨_, rfl⟩
  have HV2 := Lib.hid hv2
  have HV0 := Lib.hid hv0
  have HFL : Hid (failsB fs (k : Int) v2 = false) := Lib.hid (by rw [← hv2, tk]; exact hfb)
  rw [← tk, hv0] at hln
  have hnq : ((l : Int) != v0) = true := by simp; omega
  have hnp : ((l : Int) == v0) = false := by simp; omega
  clear hln
  clear hv2 hv0 tk hk hl
  have HM := Lib.hid (planMay_bd hC.may).1
  have hmw := hC.lt
  have HB0 : Below w.heap.size w (w.alloc (.cells #[.int .i64 (k : Int), .int .i64 (l : Int)] 27)) := (Below.refl _ _).alloc (Nat.le_refl _) _
  have G1 : Blk (w.alloc (.cells #[.int .i64 (k : Int), .int .i64 (l : Int)] 27)) w.heap.size 27 #[.int .i64 (k : Int), .int .i64 (l : Int)] := Blk.new_ _ _ _
  have z0 : (w.alloc (.cells #[.int .i64 (k : Int), .int .i64 (l : Int)] 27)).cell? ⟨w.heap.size, 0, none⟩ = some (.int .i64 (k : Int)) := G1.cell_ 0
  have z1 : (w.alloc (.cells #[.int .i64 (k : Int), .int .i64 (l : Int)] 27)).cell? ⟨w.heap.size, 1, none⟩ = some (.int .i64 (l : Int)) := G1.cell_ 1
  have hC := hC.below HB0
  obtain ⟨NP, NB, RWc, cB, HCC⟩ := hC.cells
  have y0 := HCC.y0; have y1 := HCC.y1; have y2 := HCC.y2; have y3 := HCC.y3; have y4 := HCC.y4; have y12 := HCC.y12
  have hnm : ¬ w.heap.size = m := by omega
  rw [show (!s.on) = false by rw [ho]; rfl] at y12
  clear ho
  go_enter Try.func33, Try.ntmps33
  go_upto_region 3 with fail
  refine wp_region_noPanic ?_
  refine wp_region_held_drew (S := (fun w' => w'.cell? ⟨m, 0, none⟩ = some (.int .i64 a) ∧ w'.cell? ⟨m, 1, none⟩ = some (.int .i64 b) ∧ w'.cell? ⟨m, 2, none⟩ = some (.int .i64 c) ∧ w'.cell? ⟨m, 3, none⟩ = some (.int .i64 d) ∧ w'.cell? ⟨m, 4, none⟩ = some (.int .i64 e) ∧ w'.cell? ⟨w.heap.size, 0, none⟩ = some (.int .i64 (k : Int)) ∧ w'.cell? ⟨w.heap.size, 1, none⟩ = some (.int .i64 (l : Int)))) (by kernel_rfl) ?_ (fun hHeld => ?_)
  · (first | exact ⟨y0, y1, y2, y3, y4, z0, z1⟩ | assumption)
  refine tk 0 ⟨some 15, .move (.tmp 0), 30, "ref.go:79", #[], none⟩ ?_; try simp only [Act.put, pz1, pz2, pz3]
  refine tk 1 ⟨some 16, .nilCheck (.tmp 15), 0, "ref.go:79", #[⟨0, .data⟩], none⟩ ?_; try simp only [Act.put, pz1, pz2, pz3]
  refine tk 2 ⟨some 17, .fieldAddr 94 (.tmp 16) 0, 0, "ref.go:79", #[⟨1, .data⟩], none⟩ ?_; try simp only [Act.put, pz1, pz2, pz3]
  refine tk 3 ⟨some 18, .load 23 (.tmp 17), 23, "ref.go:79", #[⟨2, .data⟩], none⟩ ?_; try simp only [Act.put, pz1, pz2, pz3]
  refine tk 4 ⟨some 19, .load 27 (.tmp 4), 27, "ref.go:79", #[], none⟩ ?_; try simp only [Act.put, pz1, pz2, pz3]
  refine wpAnyH_ready (rs := [5]) (by kernel_rfl) (by simp) ?_
  refine AllReadyH.cons (o := ⟨some 20, .call { callee := .value (.func 43), args := #[.tmp 18, .tmp 19], argTypes := #[23, 27] }, 4, "ref.go:79", #[⟨3, .data⟩, ⟨4, .data⟩], none⟩) rfl (fun K hK => ?_) AllReadyH.nil
  go_simp
  (first | (go_at_call 43; ((with_reducible refine (rthr_b _ _ _ _ _ (k : Int) (l : Int) _ _ HM ht).mono ?_); rintro e' wN ⟨rfl, hb⟩; (try have hb := undrew hb); replace hC := RefW.likeB hC hb; replace HB0 := btr HB0 HB0.size hb; replace G1 := G1.below hb G1.lt; replace HCC := RefC.below HCC hb; clear z0 z1; clear y0 y1 y2 y3 y4 y12; have z0 := G1.cell_ 0; have z1 := G1.cell_ 1; simp at z0 z1; have y0 := HCC.y0; have y1 := HCC.y1; have y2 := HCC.y2; have y3 := HCC.y3; have y4 := HCC.y4; have y12 := HCC.y12)) | (go_at_call 60; ((with_reducible refine (rraw_b _ _ _ _ _ RW _ HM HRW).mono ?_); rintro e' wN ⟨rfl, hb⟩; (try have hb := undrew hb); replace hC := RefW.likeB hC hb; replace HB0 := btr HB0 HB0.size hb; replace G1 := G1.below hb G1.lt; replace HCC := RefC.below HCC hb; clear z0 z1; clear y0 y1 y2 y3 y4 y12; have z0 := G1.cell_ 0; have z1 := G1.cell_ 1; simp at z0 z1; have y0 := HCC.y0; have y1 := HCC.y1; have y2 := HCC.y2; have y3 := HCC.y3; have y4 := HCC.y4; have y12 := HCC.y12)))
  go_wp2_with fail
  refine hK.out _ _ ?_ (fun hNew => ?_)
  · (first | exact ⟨y0, y1, y2, y3, y4, z0, z1⟩ | assumption)
  clear hK K hHeld
  have hHeld := hNew
  clear hNew
  try simp only [Act.put, pz1, pz2, pz3]
  refine tk 6 ⟨some 21, .unOp .not 4 (.tmp 20), 4, "ref.go:79", #[⟨5, .data⟩], none⟩ ?_; try simp only [Act.put, pz1, pz2, pz3]
  refine tk 7 ⟨some 22, .move (.tmp 21), 4, "ref.go:79", #[⟨6, .data⟩, ⟨5, .chain⟩], none⟩ ?_; try simp only [Act.put, pz1, pz2, pz3]
  refine tk 8 ⟨some 23, .move (.tmp 2), 38, "ref.go:79", #[⟨7, .guard⟩], some (7, false)⟩ ?_; try simp only [Act.put, pz1, pz2, pz3]
  refine tk 9 ⟨some 24, .call { callee := .builtin .len, args := #[.tmp 23], argTypes := #[38] }, 3, "ref.go:79", #[⟨8, .data⟩, ⟨7, .guard⟩], some (7, false)⟩ ?_; try simp only [Act.put, pz1, pz2, pz3]
  refine tk 10 ⟨some 25, .move (.tmp 0), 30, "ref.go:79", #[⟨7, .guard⟩], some (7, false)⟩ ?_; try simp only [Act.put, pz1, pz2, pz3]
  refine tk 11 ⟨some 26, .nilCheck (.tmp 25), 0, "ref.go:79", #[⟨10, .data⟩, ⟨7, .guard⟩], some (7, false)⟩ ?_; try simp only [Act.put, pz1, pz2, pz3]
  refine tk 12 ⟨some 27, .fieldAddr 94 (.tmp 26) 0, 0, "ref.go:79", #[⟨11, .data⟩, ⟨7, .guard⟩], some (7, false)⟩ ?_; try simp only [Act.put, pz1, pz2, pz3]
  refine tk 13 ⟨some 28, .load 23 (.tmp 27), 23, "ref.go:79", #[⟨12, .data⟩, ⟨7, .guard⟩], some (7, false)⟩ ?_; try simp only [Act.put, pz1, pz2, pz3]
  refine wpAnyH_ready (rs := [14]) (by kernel_rfl) (by simp) ?_
  refine AllReadyH.cons (o := ⟨some 29, .call { callee := .value (.func 60), args := #[.tmp 28], argTypes := #[23] }, 3, "ref.go:79", #[⟨13, .data⟩, ⟨7, .chain⟩, ⟨7, .guard⟩], some (7, false)⟩) rfl (fun K hK => ?_) AllReadyH.nil
  go_simp
  (first | (go_at_call 43; ((with_reducible refine (rthr_b _ _ _ _ _ (k : Int) (l : Int) _ _ HM ht).mono ?_); rintro e' wN ⟨rfl, hb⟩; (try have hb := undrew hb); replace hC := RefW.likeB hC hb; replace HB0 := btr HB0 HB0.size hb; replace G1 := G1.below hb G1.lt; replace HCC := RefC.below HCC hb; clear z0 z1; clear y0 y1 y2 y3 y4 y12; have z0 := G1.cell_ 0; have z1 := G1.cell_ 1; simp at z0 z1; have y0 := HCC.y0; have y1 := HCC.y1; have y2 := HCC.y2; have y3 := HCC.y3; have y4 := HCC.y4; have y12 := HCC.y12)) | (go_at_call 60; ((with_reducible refine (rraw_b _ _ _ _ _ RW _ HM HRW).mono ?_); rintro e' wN ⟨rfl, hb⟩; (try have hb := undrew hb); replace hC := RefW.likeB hC hb; replace HB0 := btr HB0 HB0.size hb; replace G1 := G1.below hb G1.lt; replace HCC := RefC.below HCC hb; clear z0 z1; clear y0 y1 y2 y3 y4 y12; have z0 := G1.cell_ 0; have z1 := G1.cell_ 1; simp at z0 z1; have y0 := HCC.y0; have y1 := HCC.y1; have y2 := HCC.y2; have y3 := HCC.y3; have y4 := HCC.y4; have y12 := HCC.y12)))
  go_wp2_with fail
  refine hK.out _ _ ?_ (fun hNew => ?_)
  · (first | exact ⟨y0, y1, y2, y3, y4, z0, z1⟩ | assumption)
  clear hK K hHeld
  have hHeld := hNew
  clear hNew
  try simp only [Act.put, pz1, pz2, pz3]
  refine tk 15 ⟨some 30, .binOp .neq 3 (.tmp 24) (.tmp 29) 3, 4, "ref.go:79", #[⟨9, .data⟩, ⟨14, .data⟩, ⟨7, .guard⟩], some (7, false)⟩ ?_; try simp only [Act.put, pz1, pz2, pz3]
  refine tk 16 ⟨some 31, .pick (.tmp 22) (.const (.bool true)) (.tmp 30), 4, "ref.go:79", #[⟨7, .data⟩, ⟨15, .data⟩], none⟩ ?_; try simp only [Act.put, pz1, pz2, pz3]
  refine wpAnyH_done (by kernel_rfl) ?_ _
  refine NoPanic.normal ?_
  go_upto_region 7 with (go_at_call 61; ((with_reducible refine (rturn_b _ _ _ _ _ _ _ _ _ _ _ _ _ _ _ _ _ _ _ hC hbn (by omega) hwt hcu).mono ?_); rintro e' wN ⟨rfl, hC2, hT⟩; have HT := (Tch.of_below (S := fun g => g = m) HB0).trans (Tch.like0 hT); have hlt0 := hT.far w.heap.size G1.lt hnm; replace G1 : Blk wN w.heap.size _ _ := hlt0.trans G1; clear hlt0 hC HCC; have hC := hC2; clear hC2 z0 z1; clear y0 y1 y2 y3 y4 y12; have z0 := G1.cell_ 0; have z1 := G1.cell_ 1; simp at z0 z1))
  obtain ⟨NP, NB, RWc, cB, HCC⟩ := hC.cells
  have y0 := HCC.y0; have y1 := HCC.y1; have y2 := HCC.y2; have y3 := HCC.y3; have y4 := HCC.y4; have y5 := HCC.y5; have y6 := HCC.y6; have y7 := HCC.y7; have y9 := HCC.y9; have y15 := HCC.y15
  have i0 : (0 : Int) ≤ (k : Int) := by omega
  have i1 : (k : Int) < (NB : Int) := by have := HCC.hNB.out; have := HK.out; omega
  have cD := HCC.n2 k (by omega)
  have cX := HCC.n0 k (by omega)
  rw [HV2.out] at cD
  rw [HV0.out] at cX
  refine wp_region_noPanic ?_
  refine wp_region_held_drew (S := (fun w' => w'.cell? ⟨m, 5, none⟩ = some (.slice Af nf cf) ∧ w'.cell? ⟨m, 9, none⟩ = some (.slice (some ⟨gD, 0, none⟩) NB NB) ∧ w'.cell? ⟨w.heap.size, 0, none⟩ = some (.int .i64 (k : Int)) ∧ w'.cell? ⟨gD, k, none⟩ = some (.int .i64 v2))) (by kernel_rfl) ?_ (fun hHeld => ?_)
  · (first | exact ⟨y5, y9, z0, cD⟩ | assumption)
  refine tk 0 ⟨some 35, .move (.tmp 0), 30, "ref.go:85", #[], none⟩ ?_; try simp only [Act.put, pz1, pz2, pz3]
  refine tk 1 ⟨some 36, .nilCheck (.tmp 35), 0, "ref.go:85", #[⟨0, .data⟩], none⟩ ?_; try simp only [Act.put, pz1, pz2, pz3]
  refine tk 2 ⟨some 37, .fieldAddr 94 (.tmp 36) 1, 0, "ref.go:85", #[⟨1, .data⟩], none⟩ ?_; try simp only [Act.put, pz1, pz2, pz3]
  refine tk 3 ⟨some 38, .load 24 (.tmp 37), 24, "ref.go:85", #[⟨2, .data⟩], none⟩ ?_; try simp only [Act.put, pz1, pz2, pz3]
  refine tk 4 ⟨some 39, .fieldAddr 27 (.tmp 4) 0, 0, "ref.go:85", #[], none⟩ ?_; try simp only [Act.put, pz1, pz2, pz3]
  refine tk 5 ⟨some 40, .load 3 (.tmp 39), 3, "ref.go:85", #[⟨4, .data⟩], none⟩ ?_; try simp only [Act.put, pz1, pz2, pz3]
  refine tk 6 ⟨some 41, .move (.tmp 0), 30, "ref.go:85", #[], none⟩ ?_; try simp only [Act.put, pz1, pz2, pz3]
  refine tk 7 ⟨some 42, .nilCheck (.tmp 41), 0, "ref.go:85", #[⟨6, .data⟩], none⟩ ?_; try simp only [Act.put, pz1, pz2, pz3]
  refine tk 8 ⟨some 43, .fieldAddr 94 (.tmp 42) 5, 0, "ref.go:85", #[⟨7, .data⟩], none⟩ ?_; try simp only [Act.put, pz1, pz2, pz3]
  refine tk 9 ⟨some 44, .load 92 (.tmp 43), 92, "ref.go:85", #[⟨8, .data⟩], none⟩ ?_; try simp only [Act.put, pz1, pz2, pz3]
  refine tk 10 ⟨some 45, .fieldAddr 27 (.tmp 4) 0, 0, "ref.go:85", #[], none⟩ ?_; try simp only [Act.put, pz1, pz2, pz3]
  refine tk 11 ⟨some 46, .load 3 (.tmp 45), 3, "ref.go:85", #[⟨10, .data⟩], none⟩ ?_; try simp only [Act.put, pz1, pz2, pz3]
  refine tk 12 ⟨some 47, .indexAddr 92 (.tmp 44) (.tmp 46), 0, "ref.go:85", #[⟨9, .data⟩, ⟨11, .data⟩], none⟩ ?_; try simp only [Act.put, pz1, pz2, pz3]
  refine tk 13 ⟨some 48, .load 3 (.tmp 47), 3, "ref.go:85", #[⟨12, .data⟩], none⟩ ?_; try simp only [Act.put, pz1, pz2, pz3]
  refine wpAnyH_ready (rs := [14]) (by kernel_rfl) (by simp) ?_
  refine AllReadyH.cons (o := ⟨some 49, .call { callee := .value (.func 62), args := #[.tmp 38, .tmp 40, .tmp 48], argTypes := #[24, 3, 3] }, 4, "ref.go:85", #[⟨3, .data⟩, ⟨5, .data⟩, ⟨13, .data⟩], none⟩) rfl (fun K hK => ?_) AllReadyH.nil
  go_simp
  (go_at_call 62; ((with_reducible refine (rpfails_b fs Af nf cf _ _ _ _ (by first | exact hC.flt.sl | exact (RefW.drew hC).flt.sl) hC.nf (by omega) HFL).mono ?_); rintro e' wN ⟨rfl, hb⟩; (try have hb := undrew hb); replace hC := RefW.likeB hC hb; replace HT := Tch.thenB HT hb; replace G1 := G1.below hb G1.lt; replace HCC := RefC.below HCC hb; replace cD := cellOf hb cD; replace cX := cellOf hb cX; clear z0 z1; clear y0 y1 y2 y3 y4 y5 y6 y7 y9 y15; have z0 := G1.cell_ 0; have z1 := G1.cell_ 1; simp at z0 z1; have y0 := HCC.y0; have y1 := HCC.y1; have y2 := HCC.y2; have y3 := HCC.y3; have y4 := HCC.y4; have y5 := HCC.y5; have y6 := HCC.y6; have y7 := HCC.y7; have y9 := HCC.y9; have y15 := HCC.y15))
  go_wp2_with fail
  refine hK.out _ _ ?_ (fun hNew => ?_)
  · (first | exact ⟨y5, y9, z0, cD⟩ | assumption)
  clear hK K hHeld
  have hHeld := hNew
  clear hNew
  try simp only [Act.put, pz1, pz2, pz3]
  refine tk 15 ⟨some 34, .assign (.tmp 49), 4, "ref.go:85", #[⟨14, .data⟩, ⟨14, .chain⟩], none⟩ ?_; try simp only [Act.put, pz1, pz2, pz3]
  refine wpAnyH_done (by kernel_rfl) ?_ _
  refine NoPanic.normal ?_
  go_upto_region 9 with fail
  refine wp_region_noPanic ?_
  refine wp_region_held_drew (S := (fun w' => w'.cell? ⟨m, 7, none⟩ = some (.slice (some ⟨gN, 0, none⟩) NB NB) ∧ w'.cell? ⟨w.heap.size, 0, none⟩ = some (.int .i64 (k : Int)) ∧ w'.cell? ⟨w.heap.size, 1, none⟩ = some (.int .i64 (l : Int)) ∧ w'.cell? ⟨gN, k, none⟩ = some (.int .i64 v0))) (by kernel_rfl) ?_ (fun hHeld => ?_)
  · (first | exact ⟨y7, z0, z1, cX⟩ | assumption)
  refine tk 0 ⟨some 51, .fieldAddr 27 (.tmp 4) 1, 0, "ref.go:87", #[], none⟩ ?_; try simp only [Act.put, pz1, pz2, pz3]
  refine tk 1 ⟨some 52, .load 3 (.tmp 51), 3, "ref.go:87", #[⟨0, .data⟩], none⟩ ?_; try simp only [Act.put, pz1, pz2, pz3]
  refine tk 2 ⟨some 53, .move (.tmp 0), 30, "ref.go:87", #[], none⟩ ?_; try simp only [Act.put, pz1, pz2, pz3]
  refine tk 3 ⟨some 54, .nilCheck (.tmp 53), 0, "ref.go:87", #[⟨2, .data⟩], none⟩ ?_; try simp only [Act.put, pz1, pz2, pz3]
  refine tk 4 ⟨some 55, .fieldAddr 94 (.tmp 54) 3, 0, "ref.go:87", #[⟨3, .data⟩], none⟩ ?_; try simp only [Act.put, pz1, pz2, pz3]
  refine tk 5 ⟨some 56, .load 92 (.tmp 55), 92, "ref.go:87", #[⟨4, .data⟩], none⟩ ?_; try simp only [Act.put, pz1, pz2, pz3]
  refine tk 6 ⟨some 57, .fieldAddr 27 (.tmp 4) 0, 0, "ref.go:87", #[], none⟩ ?_; try simp only [Act.put, pz1, pz2, pz3]
  refine tk 7 ⟨some 58, .load 3 (.tmp 57), 3, "ref.go:87", #[⟨6, .data⟩], none⟩ ?_; try simp only [Act.put, pz1, pz2, pz3]
  refine tk 8 ⟨some 59, .indexAddr 92 (.tmp 56) (.tmp 58), 0, "ref.go:87", #[⟨5, .data⟩, ⟨7, .data⟩], none⟩ ?_; try simp only [Act.put, pz1, pz2, pz3]
  refine tk 9 ⟨some 60, .load 3 (.tmp 59), 3, "ref.go:87", #[⟨8, .data⟩], none⟩ ?_; try simp only [Act.put, pz1, pz2, pz3]
  refine tk 10 ⟨some 61, .binOp .neq 3 (.tmp 52) (.tmp 60) 3, 4, "ref.go:87", #[⟨1, .data⟩, ⟨9, .data⟩], none⟩ ?_; try simp only [Act.put, pz1, pz2, pz3]
  refine tk 11 ⟨some 50, .assign (.tmp 61), 4, "ref.go:87", #[⟨10, .data⟩], none⟩ ?_; try simp only [Act.put, pz1, pz2, pz3]
  refine wpAnyH_done (by kernel_rfl) ?_ _
  refine NoPanic.normal ?_
  go_wp2_with fail
  go_ret
  exact ⟨rfl, (by first | exact hC | exact hC.like), (by first | exact HT | exact HT.like)⟩
end Go.Proofs.Ytcpniplfkillbaa
