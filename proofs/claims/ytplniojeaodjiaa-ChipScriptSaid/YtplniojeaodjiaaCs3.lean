/- New of a chip with faults. -/
import Derived.Test.YtplniojeaodjiaaCs2
import Derived.Test.YtplniojeaodjiaaCs1
import Derived.Deep.CutBlock
namespace Go.Proofs.Ytplniojeaodjiaa
open Go.ChangeShapes Go.WideShapes Go.ChangeAt Go.RowKit
set_option linter.unusedSimpArgs false
set_option linter.unusedVariables false

def fltV (f : Flt) : List Value := [.int .i64 f.blk, .bool f.fac, .int .i64 f.aft]
def flatF : List Flt → List Value
  | [] => []
  | f :: fs => fltV f ++ flatF fs
theorem flatF_len : ∀ fs : List Flt, (flatF fs).length = fs.length * 3
  | [] => rfl
  | f :: fs => by
    show (fltV f ++ flatF fs).length = _
    rw [List.length_append, flatF_len fs]
    show 3 + _ = (fs.length + 1) * 3
    omega
theorem flatF_at : ∀ (fs : List Flt) (k : Nat) (f : Flt), fs[k]? = some f → (flatF fs)[k * 3]? = some (.int .i64 f.blk) ∧ (flatF fs)[k * 3 + 1]? = some (.bool f.fac) ∧ (flatF fs)[k * 3 + 2]? = some (.int .i64 f.aft)
  | [], _, _, h => by simp at h
  | g :: fs, 0, f, h => by
    obtain rfl : g = f := by simpa using h
    exact ⟨rfl, rfl, rfl⟩
  | g :: fs, k + 1, f, h => by
    have q := flatF_at fs k f (by simpa using h)
    have e : ∀ j, (flatF (g :: fs))[j + 3]? = (flatF fs)[j]? := fun j => by
      show (fltV g ++ flatF fs)[j + 3]? = _
      rw [List.getElem?_append_right (by simp [fltV])]
      simp [fltV]
    rw [show (k + 1) * 3 = k * 3 + 3 by omega, show k * 3 + 3 + 1 = k * 3 + 1 + 3 by omega, show k * 3 + 3 + 2 = k * 3 + 2 + 3 by omega, e, e, e]
    exact q
theorem flatF_rd {w : World} {g : Nat} : ∀ (fs : List Flt) (off : Nat), (∀ k f, fs[k]? = some f → w.cell? ⟨g, off + k * 3, none⟩ = some (.int .i64 f.blk) ∧ w.cell? ⟨g, off + k * 3 + 1, none⟩ = some (.bool f.fac) ∧ w.cell? ⟨g, off + k * 3 + 2, none⟩ = some (.int .i64 f.aft)) → ∀ j u, (flatF fs)[j]? = some u → w.cell? ⟨g, off + j, none⟩ = some u
  | [], _, _, _, _, hu => by simp [flatF] at hu
  | f :: fs, off, h, j, u, hu => by
    obtain ⟨h0, h1, h2⟩ := h 0 f rfl
    match j, hu with
    | 0, hu =>
      obtain rfl : Value.int .i64 f.blk = u := by simpa [flatF, fltV] using hu
      exact h0
    | 1, hu =>
      obtain rfl : Value.bool f.fac = u := by simpa [flatF, fltV] using hu
      exact h1
    | 2, hu =>
      obtain rfl : Value.int .i64 f.aft = u := by simpa [flatF, fltV] using hu
      exact h2
    | j + 3, hu =>
      have e : (flatF (f :: fs))[j + 3]? = (flatF fs)[j]? := by
        show (fltV f ++ flatF fs)[j + 3]? = _
        rw [List.getElem?_append_right (by simp [fltV])]
        simp [fltV]
      rw [e] at hu
      have q := flatF_rd fs (off + 3) (fun k f' hk => by
        have := h (k + 1) f' (by simpa using hk)
        rw [show off + (k + 1) * 3 = off + 3 + k * 3 by omega] at this
        exact this) j u hu
      rw [show off + (j + 3) = off + 3 + j by omega]
      exact q
theorem flatF_one : ∀ fs : List Flt, ∀ u ∈ flatF fs, u.oneCell' = true
  | [], u, h => by simp [flatF] at h
  | f :: fs, u, h => by
    rcases List.mem_append.1 (show u ∈ fltV f ++ flatF fs from h) with h | h
    · simp only [fltV, List.mem_cons, List.not_mem_nil, or_false] at h
      rcases h with rfl | rfl | rfl <;> rfl
    · exact flatF_one fs u h
/-- A row of faults of one's own. -/
def FR (w : World) (A : Option Addr) (fs : List Flt) : Prop := fs = [] ∨ ∃ g, A = some ⟨g, 0, none⟩ ∧ RowT w g 61 (flatF fs)
def FNe (A : Option Addr) (fs : List Flt) (k : Nat) : Prop := fs = [] ∨ ∃ g, A = some ⟨g, 0, none⟩ ∧ g ≠ k
def FGe (A : Option Addr) (fs : List Flt) (k : Nat) : Prop := fs = [] ∨ ∃ g, A = some ⟨g, 0, none⟩ ∧ k ≤ g
theorem FR.below_ {w w' : World} {A : Option Addr} {fs : List Flt} (h : FR w A fs) (hb : Below w.heap.size w w') : FR w' A fs := by
  rcases h with h | ⟨g, e, h⟩
  · exact Or.inl h
  · exact Or.inr ⟨g, e, h.below hb⟩
theorem FR.ne {w : World} {A : Option Addr} {fs : List Flt} (h : FR w A fs) {k : Nat} (hk : w.heap.size ≤ k) : FNe A fs k := by
  rcases h with h | ⟨g, e, h⟩
  · exact Or.inl h
  · exact Or.inr ⟨g, e, by have := h.lt; omega⟩
theorem FNe.fresh {A : Option Addr} {fs : List Flt} {n k : Nat} (h : FGe A fs n) (hk : k < n) : FNe A fs k := by
  rcases h with h | ⟨g, e, h⟩
  · exact Or.inl h
  · exact Or.inr ⟨g, e, by omega⟩
theorem FR.at_ {w : World} {A : Option Addr} {fs : List Flt} (h : FR w A fs) {m gx gb : Nat} (h1 : FNe A fs m) (h2 : FNe A fs gx) (h3 : FNe A fs gb) : FltAt w A fs m gx gb := by
  rcases h with h | ⟨g, e, h⟩
  · exact Or.inl h
  rcases h1 with h1 | ⟨g1, e1, h1⟩
  · exact Or.inl h1
  rcases h2 with h2 | ⟨g2, e2, h2⟩
  · exact Or.inl h2
  rcases h3 with h3 | ⟨g3, e3, h3⟩
  · exact Or.inl h3
  subst e
  cases e1
  cases e2
  cases e3
  refine Or.inr ⟨g, 0, rfl, h.lt, h1, h2, h3, fun k f hf => ?_⟩
  obtain ⟨q0, q1, q2⟩ := flatF_at fs k f hf
  rw [Nat.zero_add]
  exact ⟨h.cell_ q0, h.cell_ q1, h.cell_ q2⟩
theorem infoF : (Try.prog.info? 61).map (fun i => (i.zero, i.size, i.bytes)) = some (some (.agg #[.int .i64 0, .bool false, .int .i64 0]), 3, 24) := by kernel_rfl
theorem slF_not_nil (a : Addr) (n c : Nat) (w : World) : (binOp BinOp.eql 24 (.slice (some a) n c) (.slice none 0 0)).run Try.prog w = .ok (.bool false) w := by kernel_rfl
theorem own_emptyF (w : World) (e : TypeId) : (w.alloc (.cells #[] e)).ownsRow w.heap.size e 3 (.slice (some ⟨w.heap.size, 0, none⟩) 0 0) 0 [] :=
  ⟨by simp, Or.inr ⟨w.heap.size, 0, #[], rfl, Nat.le_refl _, heap_alloc_new w _, by omega, by unfold maxLen; omega, by simp, by simp⟩⟩
theorem own_rowF {w : World} {base n : Nat} {t : TypeId} {v : Value} {xs : List Value} (h : w.ownsRow base t 3 v n xs) : ∃ A c, v = .slice A n c ∧ (n = 0 ∨ ∃ g, A = some ⟨g, 0, none⟩ ∧ RowT w g t xs ∧ base ≤ g) := by
  obtain ⟨hl, h'⟩ := h
  rcases h' with ⟨hv, h0⟩ | ⟨g, cap, cur, rfl, hb, hh, hnc, _, hsz, ht⟩
  · rw [h0] at hl
    simp at hl
    have hn : n = 0 := by omega
    subst hn
    exact ⟨none, 0, hv, Or.inl rfl⟩
  · refine ⟨some ⟨g, 0, none⟩, cap, rfl, Or.inr ⟨g, rfl, ⟨cur.toList.drop (n * 3), ?_⟩, hb⟩⟩
    unfold Blk
    rw [← ht, List.take_append_drop]
    exact hh
theorem fclone_any (fs : List Flt) (A : Option Addr) (c : Nat) (w : World) (hs : SlF w w.heap.size A fs) (hlen : fs.length ≤ 100000) :
    Calls Try.prog 35 #[.slice A fs.length c] w fun e' w' => (∃ A' c', e' = .returned (.slice A' fs.length c') ∧ FR w' A' fs ∧ FGe A' fs w.heap.size) ∧ Below w.heap.size w w' := by
  rcases A with _ | ⟨g, o, sp⟩
  · obtain rfl : fs = [] := by
      rcases hs with h | ⟨g, off, e, _⟩
      · exact h
      · cases e
    have hnil : (binOp BinOp.eql 24 (.slice none 0 c) (.slice none 0 0)).run Try.prog w = .ok (.bool true) w := by kernel_rfl
    go_enter Try.func35, Try.ntmps35
    go_wp2
    go_ret
    exact ⟨⟨none, 0, rfl, Or.inl rfl, Or.inl rfl⟩, Below.refl _ _⟩
  · have hnil := slF_not_nil ⟨g, o, sp⟩ fs.length c w
    have HR : Rd (w.alloc (.cells #[] 61)) (some ⟨g, o, sp⟩) fs.length 3 (flatF fs) := by
      refine ⟨flatF_len fs, ?_⟩
      rcases hs with h | ⟨g', off, e, hlt, hc⟩
      · left
        rw [h]
        rfl
      · cases e
        refine Or.inr ⟨g, o, rfl, fun j u hu => ?_⟩
        refine (Below.cell (p := ⟨g, o + j, none⟩) ((Below.refl w.heap.size w).alloc (Nat.le_refl _) (.cells #[] 61)) hlt).trans ?_
        exact flatF_rd fs o hc j u hu
    clear hs
    go_enter Try.func35, Try.ntmps35
    go_upto_region 3 with fail
    refine wp_region_lit ?_
    refine wpList_plain rfl (fun K hK => ?_)
    go_simp
    refine hK _ _ ?_
    clear hK K
    try simp only [Act.put, pz1, pz2, pz3]
    refine wpList_plain rfl (fun K hK => ?_)
    go_simp
    refine hK _ _ ?_
    clear hK K
    try simp only [Act.put, pz1, pz2, pz3]
    obtain ⟨ti0, hi, hz0, hz1, hz2⟩ := info_parts infoF
    refine wpList_app _ rfl (.tmp 5) (.tmp 6) _ rfl w.heap.size 61 ti0 _ 3 24 Try.underlying24 hi hz0 hz1 hz2 rfl (by decide) (.slice (some ⟨w.heap.size, 0, none⟩) 0 0) 0 [] rfl (own_emptyF w _) (some ⟨g, o, sp⟩) fs.length c (flatF fs) rfl HR (flatF_one fs) (by unfold maxLen; omega) (by omega) (by simp) ?_
    intro v' w' ho' hg' hv'
    clear hi hz0 hz1 hz2
    rw [Nat.zero_add, List.nil_append] at ho'
    obtain ⟨A', c', rfl, hR'⟩ := own_rowF ho'
    have HG := Lib.hid hg'
    have HRR := Lib.hid hR'
    clear hg' hR' ho' hv' hnil
    try simp only [Act.put, pz1, pz2, pz3]
    go_wp2_with fail
    go_ret
    have hB : Below w.heap.size w w' := ((Below.refl _ _).alloc (Nat.le_refl _) _).grown HG.out (by simp) (fun g' hg'' => by simp [Value.ownBlock] at hg''; omega)
    refine ⟨⟨A', c', rfl, ?_, ?_⟩, hB⟩
    · rcases HRR.out with h | ⟨g', e, h, _⟩
      · exact Or.inl (List.eq_nil_of_length_eq_zero h)
      · exact Or.inr ⟨g', e, h⟩
    · rcases HRR.out with h | ⟨g', e, _, h⟩
      · exact Or.inl (List.eq_nil_of_length_eq_zero h)
      · exact Or.inr ⟨g', e, h⟩
theorem box_chipF (a b c d e : Int) (AF : Option Addr) (nf cf gx NX gb NB : Nat) (w : World) : (Instr.box 71 (.agg #[.int .i64 a, .int .i64 b, .int .i64 c, .int .i64 d, .int .i64 e, .slice AF nf cf, .slice (some ⟨gx, 0, none⟩) NX NX, .slice (some ⟨gb, 0, none⟩) NB NB, .int .i64 0, .int .i64 0, .bool true, .bool false, .int .i64 0, .int .i64 0, .int .i64 0, .int .u8 0])).run Try.prog w = .ok (.pointer (some ⟨w.heap.size, 0, none⟩)) (w.alloc (.cells #[.int .i64 a, .int .i64 b, .int .i64 c, .int .i64 d, .int .i64 e, .slice AF nf cf, .slice (some ⟨gx, 0, none⟩) NX NX, .slice (some ⟨gb, 0, none⟩) NB NB, .int .i64 0, .int .i64 0, .bool true, .bool false, .int .i64 0, .int .i64 0, .int .i64 0, .int .u8 0] 71)) := by kernel_rfl
theorem wp_boxF {w : World} {o : Oper} {a' : Act} {K : Act → World → Prop} {Q : Exit → Act → World → Prop} (x : Operand) (hop : o.op = Op.box 71 x)
    {a b c d e : Int} {AF : Option Addr} {nf cf gx NX gb NB : Nat} (hx : a'.eval x = .agg #[.int .i64 a, .int .i64 b, .int .i64 c, .int .i64 d, .int .i64 e, .slice AF nf cf, .slice (some ⟨gx, 0, none⟩) NX NX, .slice (some ⟨gb, 0, none⟩) NB NB, .int .i64 0, .int .i64 0, .bool true, .bool false, .int .i64 0, .int .i64 0, .int .i64 0, .int .u8 0])
    (hK : ∀ w' m, Blk w' m 71 #[.int .i64 a, .int .i64 b, .int .i64 c, .int .i64 d, .int .i64 e, .slice AF nf cf, .slice (some ⟨gx, 0, none⟩) NX NX, .slice (some ⟨gb, 0, none⟩) NB NB, .int .i64 0, .int .i64 0, .bool true, .bool false, .int .i64 0, .int .i64 0, .int .i64 0, .int .u8 0] → w.heap.size ≤ m → Below w.heap.size w w' → K (a'.put o.dst (.pointer (some ⟨m, 0, none⟩))) w') : Oper.wp Try.prog o a' w K Q := by
  have hrun := box_chipF a b c d e AF nf cf gx NX gb NB w
  unfold Oper.wp
  simp [execOp, hop, hx, hrun, Result.andThen]
  exact hK _ _ (Blk.new_ _ _ _) (Nat.le_refl _) ((Below.refl _ _).alloc (Nat.le_refl _) _)
theorem pmayF_b (a b c d e : Int) (fs : List Flt) (A : Option Addr) (c0 : Nat) (T : Bool) (w : World) (hs : SlF w w.heap.size A fs) (hc0 : fs.length ≤ c0) (hc1 : c0 ≤ maxLen) (h : Hid (planMay a b c d e fs = T)) : Calls Try.prog 33 #[.agg #[.int .i64 a, .int .i64 b, .int .i64 c, .int .i64 d, .int .i64 e], .slice A fs.length c0] w fun e' w' => e' = .returned (.bool T) ∧ Below w.heap.size w w' := by
  have := pMay_any a b c d e fs A c0 w hs hc0 hc1
  rwa [h.out] at this
theorem newF_no (a b c d e : Int) (fs : List Flt) (A : Option Addr) (c0 : Nat) (w : World) (hs : SlF w w.heap.size A fs) (hc0 : fs.length ≤ c0) (hc1 : c0 ≤ maxLen) (HP : Hid (planMay a b c d e fs = false)) : Calls Try.prog 11 #[.agg #[.int .i64 a, .int .i64 b, .int .i64 c, .int .i64 d, .int .i64 e], .slice A fs.length c0] w fun e' w' => e' = .returned (.pointer none) ∧ Below w.heap.size w w' := by
  have HB0 : Below w.heap.size w (w.alloc (.cells #[.int .i64 a, .int .i64 b, .int .i64 c, .int .i64 d, .int .i64 e] 23)) := (Below.refl _ _).alloc (Nat.le_refl _) _
  have HSF := hs.next HB0
  go_enter Try.func11, Try.ntmps11
  go_wp2_with (go_at_call 33; go_loud (((with_reducible refine (pmayF_b _ _ _ _ _ fs _ _ _ _ HSF hc0 hc1 HP).mono ?_); rintro e' wN ⟨rfl, hb⟩; replace HB0 := btr HB0 HB0.size hb)))
  go_ret
  exact ⟨rfl, HB0⟩
set_option maxRecDepth 100000 in
set_option maxHeartbeats 8000000 in
theorem newF_yes (a b c d e : Int) (fs : List Flt) (A : Option Addr) (c0 : Nat) (NX NB : Nat) (w : World) (hs : SlF w w.heap.size A fs) (hc0 : fs.length ≤ c0) (hc1 : c0 ≤ maxLen) (hfl : fs.length ≤ 100000) (HP : Hid (planMay a b c d e fs = true)) (hNX : (NX : Int) = a * b * (c + 16)) (hNB : (NB : Int) = a) (n1 : 1 ≤ NX) (n2 : NX ≤ 100000) (n3 : NB ≤ 1000) :
    Calls Try.prog 11 #[.agg #[.int .i64 a, .int .i64 b, .int .i64 c, .int .i64 d, .int .i64 e], .slice A fs.length c0] w fun e' w' => (∃ m gx gb AF cf, e' = .returned (.pointer (some ⟨m, 0, none⟩)) ∧ ChipW w' m gx gb AF fs.length cf a b c d e fs (ChS.new NX NB) ∧ w.heap.size ≤ m ∧ w.heap.size ≤ gx ∧ w.heap.size ≤ gb) ∧ Below w.heap.size w w' := by
  have HM : Hid (mayB a b c d e = true) := Lib.hid (planMay_bd HP.out).1
  obtain ⟨q1, q2, q3, q4, q5, q6, -⟩ := may_bd HM.out
  obtain ⟨M, hM⟩ : ∃ M, a * b = M := ⟨_, rfl⟩
  have hMb : 32 ≤ M ∧ M ≤ 160 := by
    have := mul_bd (x := a) (y := b) (lo := 8) (hi := 20) q1 q2 q3 q4 (by omega) (by omega)
    omega
  have hNX' : M * (c + 16) = (NX : Int) := by rw [← hM]; exact hNX.symm
  have hw1 : IntKind.i64.wrap M = M := wrapS _ (by omega) (by omega)
  have hw2 : IntKind.i64.wrap (NX : Int) = (NX : Int) := wrapS _ (by omega) (by omega)
  have HB0 : Below w.heap.size w (w.alloc (.cells #[.int .i64 a, .int .i64 b, .int .i64 c, .int .i64 d, .int .i64 e] 23)) := (Below.refl _ _).alloc (Nat.le_refl _) _
  have HSF := hs.next HB0
  have G1 : Blk (w.alloc (.cells #[.int .i64 a, .int .i64 b, .int .i64 c, .int .i64 d, .int .i64 e] 23)) w.heap.size 23 #[.int .i64 a, .int .i64 b, .int .i64 c, .int .i64 d, .int .i64 e] := Blk.new_ _ _ _
  have HY := cells5 G1
  have HLX : Hid (NX = (a * b * (c + 16)).toNat) := Lib.hid (by rw [← hNX]; rfl)
  have HLK : Hid (3 * NB = 3 * a.toNat) := Lib.hid (by omega)
  clear hNX q1 q2 q3 q4 q5 q6 hMb hs
  go_enter Try.func11, Try.ntmps11
  go_upto_region 3 with (go_at_call 33; go_loud (((with_reducible refine (pmayF_b _ _ _ _ _ fs _ _ _ _ HSF hc0 hc1 HP).mono ?_); rintro e' wN ⟨rfl, hb⟩; replace HSF := HSF.next hb; replace G1 := G1.below hb G1.lt; replace HB0 := btr HB0 HB0.size hb; clear HY; have HY := cells5 G1)))
  clear hc0 hc1
  refine wp_region_noPanic ?_
  refine wp_region_held_drew (S := (fun w' => w'.cell? ⟨w.heap.size, 0, none⟩ = some (.int .i64 a) ∧ w'.cell? ⟨w.heap.size, 1, none⟩ = some (.int .i64 b) ∧ w'.cell? ⟨w.heap.size, 2, none⟩ = some (.int .i64 c) ∧ w'.cell? ⟨w.heap.size, 3, none⟩ = some (.int .i64 d) ∧ w'.cell? ⟨w.heap.size, 4, none⟩ = some (.int .i64 e))) (by kernel_rfl) ?_ (fun hHeld => ?_)
  · (first | exact HY | assumption)
  refine wpAnyH_take (i := 0) (oi := ⟨some 10, .fieldAddr 23 (.tmp 2) 0, 0, "chip.go:42", #[], none⟩) (v := ?_) rfl (by kernel_rfl) (by kernel_rfl) (by kernel_rfl) (fun _ _ _ h => h) (Or.inl ⟨by rfl, ?_⟩) (by assumption) ?_
  rotate_left
  · (intro wS hSw; (try dsimp only at hSw); go_simp; (try with_reducible rfl))
  try simp only [Act.put, pz1, pz2, pz3]
  refine wpAnyH_take (i := 1) (oi := ⟨some 11, .load 3 (.tmp 10), 3, "chip.go:42", #[⟨0, .data⟩], none⟩) (v := ?_) rfl (by kernel_rfl) (by kernel_rfl) (by kernel_rfl) (fun _ _ _ h => h) (Or.inl ⟨by rfl, ?_⟩) (by assumption) ?_
  rotate_left
  · (intro wS hSw; (try dsimp only at hSw); go_simp; (try with_reducible rfl))
  try simp only [Act.put, pz1, pz2, pz3]
  refine wpAnyH_take (i := 2) (oi := ⟨some 12, .fieldAddr 23 (.tmp 2) 1, 0, "chip.go:42", #[], none⟩) (v := ?_) rfl (by kernel_rfl) (by kernel_rfl) (by kernel_rfl) (fun _ _ _ h => h) (Or.inl ⟨by rfl, ?_⟩) (by assumption) ?_
  rotate_left
  · (intro wS hSw; (try dsimp only at hSw); go_simp; (try with_reducible rfl))
  try simp only [Act.put, pz1, pz2, pz3]
  refine wpAnyH_take (i := 3) (oi := ⟨some 13, .load 3 (.tmp 12), 3, "chip.go:42", #[⟨2, .data⟩], none⟩) (v := ?_) rfl (by kernel_rfl) (by kernel_rfl) (by kernel_rfl) (fun _ _ _ h => h) (Or.inl ⟨by rfl, ?_⟩) (by assumption) ?_
  rotate_left
  · (intro wS hSw; (try dsimp only at hSw); go_simp; (try with_reducible rfl))
  try simp only [Act.put, pz1, pz2, pz3]
  refine wpAnyH_take (i := 4) (oi := ⟨some 14, .binOp .mul 3 (.tmp 11) (.tmp 13) 3, 3, "chip.go:42", #[⟨1, .data⟩, ⟨3, .data⟩], none⟩) (v := ?_) rfl (by kernel_rfl) (by kernel_rfl) (by kernel_rfl) (fun _ _ _ h => h) (Or.inl ⟨by rfl, ?_⟩) (by assumption) ?_
  rotate_left
  · (intro wS hSw; (try dsimp only at hSw); go_simp; (try with_reducible rfl))
  try simp only [Act.put, pz1, pz2, pz3]
  refine wpAnyH_take (i := 5) (oi := ⟨some 15, .load 23 (.tmp 2), 23, "chip.go:42", #[], none⟩) (v := ?_) rfl (by kernel_rfl) (by kernel_rfl) (by kernel_rfl) (fun _ _ _ h => h) (Or.inl ⟨by rfl, ?_⟩) (by assumption) ?_
  rotate_left
  · (intro wS hSw; (try dsimp only at hSw); go_simp; (try with_reducible rfl))
  try simp only [Act.put, pz1, pz2, pz3]
  refine wpAnyH_ready (rs := [6]) (by kernel_rfl) (by simp) ?_
  refine AllReadyH.cons (o := ⟨some 16, .call { callee := .value (.func 34), args := #[.tmp 15], argTypes := #[23] }, 3, "chip.go:42", #[⟨5, .data⟩], none⟩) rfl (fun K hK => ?_) AllReadyH.nil
  go_simp
  (go_at_call 34; go_loud (((with_reducible refine (raw_b _ _ _ _ _ _ HM).mono ?_); rintro e' wN ⟨rfl, hb⟩; (try have hb := undrew hb); replace HSF := HSF.next hb; replace G1 := G1.below hb G1.lt; replace HB0 := btr HB0 HB0.size hb; clear HY; have HY := cells5 G1)))
  go_wp2_with fail
  refine hK.out _ _ ?_ (fun hNew => ?_)
  · (first | exact HY | assumption)
  clear hK K hHeld
  have hHeld := hNew
  clear hNew
  try simp only [Act.put, pz1, pz2, pz3]
  refine wpAnyH_take (i := 7) (oi := ⟨some 17, .binOp .mul 3 (.tmp 14) (.tmp 16) 3, 3, "chip.go:42", #[⟨4, .data⟩, ⟨6, .data⟩], none⟩) (v := ?_) rfl (by kernel_rfl) (by kernel_rfl) (by kernel_rfl) (fun _ _ _ h => h) (Or.inl ⟨by rfl, ?_⟩) (by assumption) ?_
  rotate_left
  · (intro wS hSw; (try dsimp only at hSw); go_simp; (try with_reducible rfl))
  try simp only [Act.put, pz1, pz2, pz3]
  refine wpAnyH_take (i := 8) (oi := ⟨some 5, .assign (.tmp 17), 3, "chip.go:42", #[⟨7, .data⟩, ⟨6, .chain⟩, ⟨0, .phase⟩, ⟨1, .phase⟩, ⟨2, .phase⟩, ⟨3, .phase⟩, ⟨4, .phase⟩, ⟨5, .phase⟩, ⟨6, .phase⟩, ⟨7, .phase⟩], none⟩) (v := ?_) rfl (by kernel_rfl) (by kernel_rfl) (by kernel_rfl) (fun _ _ _ h => h) (Or.inl ⟨by rfl, ?_⟩) (by assumption) ?_
  rotate_left
  · (intro wS hSw; (try dsimp only at hSw); go_simp; (try with_reducible rfl))
  try simp only [Act.put, pz1, pz2, pz3]
  refine wpAnyH_done (by kernel_rfl) ?_ _
  refine NoPanic.normal ?_
  go_upto_region 4 with fail
  replace G1 : Blk wN.drew w.heap.size 23 #[.int .i64 a, .int .i64 b, .int .i64 c, .int .i64 d, .int .i64 e] := G1
  replace HB0 := HB0.drew
  replace HSF : SlF wN.drew wN.drew.heap.size A fs := HSF
  have HS : w.heap.size + 1 ≤ wN.drew.heap.size := G1.lt
  clear HY
  have HY := cells5 G1
  clear hb hNX' hw1 hw2 hM
  refine wp_region_noPanic ?_
  refine wp_region_held_drew (S := (fun w' => w'.cell? ⟨w.heap.size, 0, none⟩ = some (.int .i64 a) ∧ w'.cell? ⟨w.heap.size, 1, none⟩ = some (.int .i64 b) ∧ w'.cell? ⟨w.heap.size, 2, none⟩ = some (.int .i64 c) ∧ w'.cell? ⟨w.heap.size, 3, none⟩ = some (.int .i64 d) ∧ w'.cell? ⟨w.heap.size, 4, none⟩ = some (.int .i64 e))) (by kernel_rfl) ?_ (fun hHeld => ?_)
  · (first | exact HY | assumption)
  refine wpAnyH_take (i := 0) (oi := ⟨some 18, .load 23 (.tmp 2), 23, "chip.go:43", #[], none⟩) (v := ?_) rfl (by kernel_rfl) (by kernel_rfl) (by kernel_rfl) (fun _ _ _ h => h) (Or.inl ⟨by rfl, ?_⟩) (by assumption) ?_
  rotate_left
  · (intro wS hSw; (try dsimp only at hSw); go_simp; (try with_reducible rfl))
  try simp only [Act.put, pz1, pz2, pz3]
  refine wpAnyH_take (i := 1) (oi := ⟨some 19, .move (.tmp 1), 24, "chip.go:43", #[], none⟩) (v := ?_) rfl (by kernel_rfl) (by kernel_rfl) (by kernel_rfl) (fun _ _ _ h => h) (Or.inl ⟨by rfl, ?_⟩) (by assumption) ?_
  rotate_left
  · (intro wS hSw; (try dsimp only at hSw); go_simp; (try with_reducible rfl))
  try simp only [Act.put, pz1, pz2, pz3]
  refine wpAnyH_take (i := 4) (oi := ⟨some 22, .move (.tmp 5), 3, "chip.go:43", #[], none⟩) (v := ?_) rfl (by kernel_rfl) (by kernel_rfl) (by kernel_rfl) (fun _ _ _ h => h) (Or.inl ⟨by rfl, ?_⟩) (by assumption) ?_
  rotate_left
  · (intro wS hSw; (try dsimp only at hSw); go_simp; (try with_reducible rfl))
  try simp only [Act.put, pz1, pz2, pz3]
  refine wpAnyH_take (i := 6) (oi := ⟨some 24, .fieldAddr 23 (.tmp 2) 0, 0, "chip.go:43", #[], none⟩) (v := ?_) rfl (by kernel_rfl) (by kernel_rfl) (by kernel_rfl) (fun _ _ _ h => h) (Or.inl ⟨by rfl, ?_⟩) (by assumption) ?_
  rotate_left
  · (intro wS hSw; (try dsimp only at hSw); go_simp; (try with_reducible rfl))
  try simp only [Act.put, pz1, pz2, pz3]
  refine wpAnyH_take (i := 7) (oi := ⟨some 25, .load 3 (.tmp 24), 3, "chip.go:43", #[⟨6, .data⟩], none⟩) (v := ?_) rfl (by kernel_rfl) (by kernel_rfl) (by kernel_rfl) (fun _ _ _ h => h) (Or.inl ⟨by rfl, ?_⟩) (by assumption) ?_
  rotate_left
  · (intro wS hSw; (try dsimp only at hSw); go_simp; (try with_reducible rfl))
  try simp only [Act.put, pz1, pz2, pz3]
  refine wpAnyH_ready (rs := [2, 3, 8]) (by kernel_rfl) (by simp) ?_
  refine (AllReadyH.cons (o := ⟨some 20, .call { callee := .value (.func 35), args := #[.tmp 19], argTypes := #[24] }, 24, "chip.go:45", #[⟨1, .data⟩], none⟩) rfl (fun K hK => ?_) (AllReadyH.cons (o := ⟨some 21, .buildSlice 48 1 #[(0, .const (.int .u8 255))], 48, "chip.go:43", #[], none⟩) rfl (fun K hK => ?_) (AllReadyH.cons (o := ⟨some 26, .makeSlice 69 (.tmp 25) (.tmp 25), 69, "chip.go:43", #[⟨7, .data⟩, ⟨7, .data⟩], none⟩) rfl (fun K hK => ?_) AllReadyH.nil)))
  · go_simp
    (go_at_call 35; go_loud (((with_reducible refine (fclone_any fs _ _ _ HSF hfl).mono ?_); rintro e' wN ⟨⟨AF, cf, rfl, RF, hqf⟩, hb⟩)))
    go_wp2_with fail
    (try have hfx := FNe.fresh hqf RX.lt)
    (try have hfb := FNe.fresh hqf RB.lt)
    (try replace HSF := HSF.next hb)
    (try replace B3 := B3.below hb B3.lt)
    (try replace RX := RX.below hb)
    (try replace RB := RB.below hb)
    replace G1 := G1.below hb G1.lt
    clear HY
    have HY := cells5 G1
    replace HB0 := btr HB0 HB0.size hb
    replace HS := Nat.le_trans HS hb.size
    refine hK.out _ _ ?_ (fun hNew => ?_)
    · (first | exact HY | assumption)
    clear hK K hHeld
    have hHeld := hNew
    clear hNew
    try simp only [Act.put, pz1, pz2, pz3]
    refine wpAnyH_ready (rs := [3, 8]) (by kernel_rfl) (by simp) ?_
    refine (AllReadyH.cons (o := ⟨some 21, .buildSlice 48 1 #[(0, .const (.int .u8 255))], 48, "chip.go:43", #[], none⟩) rfl (fun K hK => ?_) (AllReadyH.cons (o := ⟨some 26, .makeSlice 69 (.tmp 25) (.tmp 25), 69, "chip.go:43", #[⟨7, .data⟩, ⟨7, .data⟩], none⟩) rfl (fun K hK => ?_) AllReadyH.nil))
    · refine wp_build1b _ rfl 255 rfl ?_
      intro wN b3 B3 hq hb
      (try replace RF := RF.below_ hb)
      (try replace HSF := HSF.next hb)
      (try replace RX := RX.below hb)
      (try replace RB := RB.below hb)
      replace G1 := G1.below hb G1.lt
      clear HY
      have HY := cells5 G1
      replace HB0 := btr HB0 HB0.size hb
      replace HS := Nat.le_trans HS hb.size
      refine hK.out _ _ ?_ (fun hNew => ?_)
      · (first | exact HY | assumption)
      clear hK K hHeld
      have hHeld := hNew
      clear hNew
      try simp only [Act.put, pz1, pz2, pz3]
      refine wpAnyH_ready (rs := [5, 8]) (by kernel_rfl) (by simp) ?_
      refine (AllReadyH.cons (o := ⟨some 23, .call { callee := .value (.func 36), args := #[.tmp 21, .tmp 22], argTypes := #[48, 3] }, 48, "chip.go:46", #[⟨3, .data⟩, ⟨4, .data⟩, ⟨2, .chain⟩], none⟩) rfl (fun K hK => ?_) (AllReadyH.cons (o := ⟨some 26, .makeSlice 69 (.tmp 25) (.tmp 25), 69, "chip.go:43", #[⟨7, .data⟩, ⟨7, .data⟩], none⟩) rfl (fun K hK => ?_) AllReadyH.nil))
      · go_simp
        (go_at_call 36; go_loud (((with_reducible refine (rptB_b 255 b3 NX _ B3 n1 n2).mono ?_); rintro e' wN ⟨gx, rfl, hqx, RX, hb⟩)))
        go_wp2_with fail
        have hgx := Nat.le_trans HS hqx
        (try have hxb := Nat.ne_of_gt (Nat.lt_of_lt_of_le RB.lt hqx))
        (try have hfx := RF.ne hqx)
        (try replace RF := RF.below_ hb)
        (try replace HSF := HSF.next hb)
        (try replace B3 := B3.below hb B3.lt)
        (try replace RB := RB.below hb)
        replace G1 := G1.below hb G1.lt
        clear HY
        have HY := cells5 G1
        replace HB0 := btr HB0 HB0.size hb
        replace HS := Nat.le_trans HS hb.size
        refine hK.out _ _ ?_ (fun hNew => ?_)
        · (first | exact HY | assumption)
        clear hK K hHeld
        have hHeld := hNew
        clear hNew
        try simp only [Act.put, pz1, pz2, pz3]
        refine wpAnyH_ready (rs := [8]) (by kernel_rfl) (by simp) ?_
        refine AllReadyH.cons (o := ⟨some 26, .makeSlice 69 (.tmp 25) (.tmp 25), 69, "chip.go:43", #[⟨7, .data⟩, ⟨7, .data⟩], none⟩) rfl (fun K hK => ?_) AllReadyH.nil
        refine wp_makeK _ _ rfl a NB rfl rfl hNB (by omega) ?_
        intro wN gb RB hqb hb
        have hgb := Nat.le_trans HS hqb
        (try have hxb := Nat.ne_of_lt (Nat.lt_of_lt_of_le RX.lt hqb))
        (try have hfb := RF.ne hqb)
        (try replace RF := RF.below_ hb)
        (try replace HSF := HSF.next hb)
        (try replace B3 := B3.below hb B3.lt)
        (try replace RX := RX.below hb)
        replace G1 := G1.below hb G1.lt
        clear HY
        have HY := cells5 G1
        replace HB0 := btr HB0 HB0.size hb
        replace HS := Nat.le_trans HS hb.size
        refine hK.out _ _ ?_ (fun hNew => ?_)
        · (first | exact HY | assumption)
        clear hK K hHeld
        have hHeld := hNew
        clear hNew
        try simp only [Act.put, pz1, pz2, pz3]
        refine wpAnyH_take (i := 9) (oi := ⟨some 27, .build 71 #[(0, .tmp 18), (1, .tmp 20), (2, .tmp 23), (3, .tmp 26), (6, .const (.bool true))], 71, "chip.go:43", #[⟨0, .data⟩, ⟨2, .data⟩, ⟨5, .data⟩, ⟨8, .data⟩], none⟩) (v := ?_) rfl (by kernel_rfl) (by kernel_rfl) (by kernel_rfl) (fun _ _ _ h => h) (Or.inl ⟨by rfl, ?_⟩) (by assumption) ?_
        rotate_left
        · (intro wS hSw; (try dsimp only at hSw); go_simp; (try with_reducible rfl))
        try simp only [Act.put, pz1, pz2, pz3]
        refine wpAnyH_ready (rs := [10]) (by kernel_rfl) (by simp) ?_
        refine AllReadyH.cons (o := ⟨some 28, .box 71 (.tmp 27), 27, "chip.go:43", #[⟨9, .data⟩], none⟩) rfl (fun K hK => ?_) AllReadyH.nil
        refine wp_boxF _ rfl rfl ?_
        intro wN m BM hqm hb
        have hm := Nat.le_trans HS hqm
        have h1 : m ≠ gx := Nat.ne_of_gt (Nat.lt_of_lt_of_le RX.lt hqm)
        have h2 : m ≠ gb := Nat.ne_of_gt (Nat.lt_of_lt_of_le RB.lt hqm)
        have hfm := RF.ne hqm
        (try replace RF := RF.below_ hb)
        (try replace HSF := HSF.next hb)
        (try replace B3 := B3.below hb B3.lt)
        (try replace RX := RX.below hb)
        (try replace RB := RB.below hb)
        replace G1 := G1.below hb G1.lt
        clear HY
        have HY := cells5 G1
        replace HB0 := btr HB0 HB0.size hb
        replace HS := Nat.le_trans HS hb.size
        refine hK.out _ _ ?_ (fun hNew => ?_)
        · (first | exact HY | assumption)
        clear hK K hHeld
        have hHeld := hNew
        clear hNew
        try simp only [Act.put, pz1, pz2, pz3]
        refine wpAnyH_take (i := 11) (oi := ⟨some 4, .assign (.tmp 28), 27, "chip.go:43", #[⟨10, .data⟩, ⟨5, .chain⟩, ⟨0, .phase⟩, ⟨1, .phase⟩, ⟨2, .phase⟩, ⟨3, .phase⟩, ⟨4, .phase⟩, ⟨5, .phase⟩, ⟨6, .phase⟩, ⟨7, .phase⟩, ⟨8, .phase⟩, ⟨9, .phase⟩, ⟨10, .phase⟩], none⟩) (v := ?_) rfl (by kernel_rfl) (by kernel_rfl) (by kernel_rfl) (fun _ _ _ h => h) (Or.inl ⟨by rfl, ?_⟩) (by assumption) ?_
        rotate_left
        · (intro wS hSw; (try dsimp only at hSw); go_simp; (try with_reducible rfl))
        try simp only [Act.put, pz1, pz2, pz3]
        refine wpAnyH_done (by kernel_rfl) ?_ _
        refine NoPanic.normal ?_
        go_wp2_with fail
        go_ret
        refine ⟨⟨m, gx, gb, AF, cf, rfl, ⟨⟨NX, NB, NX, NB, by simp [ChS.new], hNB, Nat.le_refl _, BM⟩, by simpa [ChS.new, byteV] using RX, by simpa [ChS.new] using RB, RF.at_ hfm hfx hfb, h1, h2, hxb, (List.length_replicate ..).trans HLX.out, (List.length_replicate ..).trans HLK.out, rfl, HP.out⟩, by omega, by omega, by omega⟩, HB0⟩
      · refine wp_makeK _ _ rfl a NB rfl rfl hNB (by omega) ?_
        intro wN gb RB hqb hb
        have hgb := Nat.le_trans HS hqb
        (try have hxb := Nat.ne_of_lt (Nat.lt_of_lt_of_le RX.lt hqb))
        (try have hfb := RF.ne hqb)
        (try replace RF := RF.below_ hb)
        (try replace HSF := HSF.next hb)
        (try replace B3 := B3.below hb B3.lt)
        (try replace RX := RX.below hb)
        replace G1 := G1.below hb G1.lt
        clear HY
        have HY := cells5 G1
        replace HB0 := btr HB0 HB0.size hb
        replace HS := Nat.le_trans HS hb.size
        refine hK.out _ _ ?_ (fun hNew => ?_)
        · (first | exact HY | assumption)
        clear hK K hHeld
        have hHeld := hNew
        clear hNew
        try simp only [Act.put, pz1, pz2, pz3]
        refine wpAnyH_ready (rs := [5]) (by kernel_rfl) (by simp) ?_
        refine AllReadyH.cons (o := ⟨some 23, .call { callee := .value (.func 36), args := #[.tmp 21, .tmp 22], argTypes := #[48, 3] }, 48, "chip.go:46", #[⟨3, .data⟩, ⟨4, .data⟩, ⟨2, .chain⟩], none⟩) rfl (fun K hK => ?_) AllReadyH.nil
        go_simp
        (go_at_call 36; go_loud (((with_reducible refine (rptB_b 255 b3 NX _ B3 n1 n2).mono ?_); rintro e' wN ⟨gx, rfl, hqx, RX, hb⟩)))
        go_wp2_with fail
        have hgx := Nat.le_trans HS hqx
        (try have hxb := Nat.ne_of_gt (Nat.lt_of_lt_of_le RB.lt hqx))
        (try have hfx := RF.ne hqx)
        (try replace RF := RF.below_ hb)
        (try replace HSF := HSF.next hb)
        (try replace B3 := B3.below hb B3.lt)
        (try replace RB := RB.below hb)
        replace G1 := G1.below hb G1.lt
        clear HY
        have HY := cells5 G1
        replace HB0 := btr HB0 HB0.size hb
        replace HS := Nat.le_trans HS hb.size
        refine hK.out _ _ ?_ (fun hNew => ?_)
        · (first | exact HY | assumption)
        clear hK K hHeld
        have hHeld := hNew
        clear hNew
        try simp only [Act.put, pz1, pz2, pz3]
        refine wpAnyH_take (i := 9) (oi := ⟨some 27, .build 71 #[(0, .tmp 18), (1, .tmp 20), (2, .tmp 23), (3, .tmp 26), (6, .const (.bool true))], 71, "chip.go:43", #[⟨0, .data⟩, ⟨2, .data⟩, ⟨5, .data⟩, ⟨8, .data⟩], none⟩) (v := ?_) rfl (by kernel_rfl) (by kernel_rfl) (by kernel_rfl) (fun _ _ _ h => h) (Or.inl ⟨by rfl, ?_⟩) (by assumption) ?_
        rotate_left
        · (intro wS hSw; (try dsimp only at hSw); go_simp; (try with_reducible rfl))
        try simp only [Act.put, pz1, pz2, pz3]
        refine wpAnyH_ready (rs := [10]) (by kernel_rfl) (by simp) ?_
        refine AllReadyH.cons (o := ⟨some 28, .box 71 (.tmp 27), 27, "chip.go:43", #[⟨9, .data⟩], none⟩) rfl (fun K hK => ?_) AllReadyH.nil
        refine wp_boxF _ rfl rfl ?_
        intro wN m BM hqm hb
        have hm := Nat.le_trans HS hqm
        have h1 : m ≠ gx := Nat.ne_of_gt (Nat.lt_of_lt_of_le RX.lt hqm)
        have h2 : m ≠ gb := Nat.ne_of_gt (Nat.lt_of_lt_of_le RB.lt hqm)
        have hfm := RF.ne hqm
        (try replace RF := RF.below_ hb)
        (try replace HSF := HSF.next hb)
        (try replace B3 := B3.below hb B3.lt)
        (try replace RX := RX.below hb)
        (try replace RB := RB.below hb)
        replace G1 := G1.below hb G1.lt
        clear HY
        have HY := cells5 G1
        replace HB0 := btr HB0 HB0.size hb
        replace HS := Nat.le_trans HS hb.size
        refine hK.out _ _ ?_ (fun hNew => ?_)
        · (first | exact HY | assumption)
        clear hK K hHeld
        have hHeld := hNew
        clear hNew
        try simp only [Act.put, pz1, pz2, pz3]
        refine wpAnyH_take (i := 11) (oi := ⟨some 4, .assign (.tmp 28), 27, "chip.go:43", #[⟨10, .data⟩, ⟨5, .chain⟩, ⟨0, .phase⟩, ⟨1, .phase⟩, ⟨2, .phase⟩, ⟨3, .phase⟩, ⟨4, .phase⟩, ⟨5, .phase⟩, ⟨6, .phase⟩, ⟨7, .phase⟩, ⟨8, .phase⟩, ⟨9, .phase⟩, ⟨10, .phase⟩], none⟩) (v := ?_) rfl (by kernel_rfl) (by kernel_rfl) (by kernel_rfl) (fun _ _ _ h => h) (Or.inl ⟨by rfl, ?_⟩) (by assumption) ?_
        rotate_left
        · (intro wS hSw; (try dsimp only at hSw); go_simp; (try with_reducible rfl))
        try simp only [Act.put, pz1, pz2, pz3]
        refine wpAnyH_done (by kernel_rfl) ?_ _
        refine NoPanic.normal ?_
        go_wp2_with fail
        go_ret
        refine ⟨⟨m, gx, gb, AF, cf, rfl, ⟨⟨NX, NB, NX, NB, by simp [ChS.new], hNB, Nat.le_refl _, BM⟩, by simpa [ChS.new, byteV] using RX, by simpa [ChS.new] using RB, RF.at_ hfm hfx hfb, h1, h2, hxb, (List.length_replicate ..).trans HLX.out, (List.length_replicate ..).trans HLK.out, rfl, HP.out⟩, by omega, by omega, by omega⟩, HB0⟩
    · refine wp_makeK _ _ rfl a NB rfl rfl hNB (by omega) ?_
      intro wN gb RB hqb hb
      have hgb := Nat.le_trans HS hqb
      (try have hxb := Nat.ne_of_lt (Nat.lt_of_lt_of_le RX.lt hqb))
      (try have hfb := RF.ne hqb)
      (try replace RF := RF.below_ hb)
      (try replace HSF := HSF.next hb)
      (try replace B3 := B3.below hb B3.lt)
      (try replace RX := RX.below hb)
      replace G1 := G1.below hb G1.lt
      clear HY
      have HY := cells5 G1
      replace HB0 := btr HB0 HB0.size hb
      replace HS := Nat.le_trans HS hb.size
      refine hK.out _ _ ?_ (fun hNew => ?_)
      · (first | exact HY | assumption)
      clear hK K hHeld
      have hHeld := hNew
      clear hNew
      try simp only [Act.put, pz1, pz2, pz3]
      refine wpAnyH_ready (rs := [3]) (by kernel_rfl) (by simp) ?_
      refine AllReadyH.cons (o := ⟨some 21, .buildSlice 48 1 #[(0, .const (.int .u8 255))], 48, "chip.go:43", #[], none⟩) rfl (fun K hK => ?_) AllReadyH.nil
      refine wp_build1b _ rfl 255 rfl ?_
      intro wN b3 B3 hq hb
      (try replace RF := RF.below_ hb)
      (try replace HSF := HSF.next hb)
      (try replace RX := RX.below hb)
      (try replace RB := RB.below hb)
      replace G1 := G1.below hb G1.lt
      clear HY
      have HY := cells5 G1
      replace HB0 := btr HB0 HB0.size hb
      replace HS := Nat.le_trans HS hb.size
      refine hK.out _ _ ?_ (fun hNew => ?_)
      · (first | exact HY | assumption)
      clear hK K hHeld
      have hHeld := hNew
      clear hNew
      try simp only [Act.put, pz1, pz2, pz3]
      refine wpAnyH_ready (rs := [5]) (by kernel_rfl) (by simp) ?_
      refine AllReadyH.cons (o := ⟨some 23, .call { callee := .value (.func 36), args := #[.tmp 21, .tmp 22], argTypes := #[48, 3] }, 48, "chip.go:46", #[⟨3, .data⟩, ⟨4, .data⟩, ⟨2, .chain⟩], none⟩) rfl (fun K hK => ?_) AllReadyH.nil
      go_simp
      (go_at_call 36; go_loud (((with_reducible refine (rptB_b 255 b3 NX _ B3 n1 n2).mono ?_); rintro e' wN ⟨gx, rfl, hqx, RX, hb⟩)))
      go_wp2_with fail
      have hgx := Nat.le_trans HS hqx
      (try have hxb := Nat.ne_of_gt (Nat.lt_of_lt_of_le RB.lt hqx))
      (try have hfx := RF.ne hqx)
      (try replace RF := RF.below_ hb)
      (try replace HSF := HSF.next hb)
      (try replace B3 := B3.below hb B3.lt)
      (try replace RB := RB.below hb)
      replace G1 := G1.below hb G1.lt
      clear HY
      have HY := cells5 G1
      replace HB0 := btr HB0 HB0.size hb
      replace HS := Nat.le_trans HS hb.size
      refine hK.out _ _ ?_ (fun hNew => ?_)
      · (first | exact HY | assumption)
      clear hK K hHeld
      have hHeld := hNew
      clear hNew
      try simp only [Act.put, pz1, pz2, pz3]
      refine wpAnyH_take (i := 9) (oi := ⟨some 27, .build 71 #[(0, .tmp 18), (1, .tmp 20), (2, .tmp 23), (3, .tmp 26), (6, .const (.bool true))], 71, "chip.go:43", #[⟨0, .data⟩, ⟨2, .data⟩, ⟨5, .data⟩, ⟨8, .data⟩], none⟩) (v := ?_) rfl (by kernel_rfl) (by kernel_rfl) (by kernel_rfl) (fun _ _ _ h => h) (Or.inl ⟨by rfl, ?_⟩) (by assumption) ?_
      rotate_left
      · (intro wS hSw; (try dsimp only at hSw); go_simp; (try with_reducible rfl))
      try simp only [Act.put, pz1, pz2, pz3]
      refine wpAnyH_ready (rs := [10]) (by kernel_rfl) (by simp) ?_
      refine AllReadyH.cons (o := ⟨some 28, .box 71 (.tmp 27), 27, "chip.go:43", #[⟨9, .data⟩], none⟩) rfl (fun K hK => ?_) AllReadyH.nil
      refine wp_boxF _ rfl rfl ?_
      intro wN m BM hqm hb
      have hm := Nat.le_trans HS hqm
      have h1 : m ≠ gx := Nat.ne_of_gt (Nat.lt_of_lt_of_le RX.lt hqm)
      have h2 : m ≠ gb := Nat.ne_of_gt (Nat.lt_of_lt_of_le RB.lt hqm)
      have hfm := RF.ne hqm
      (try replace RF := RF.below_ hb)
      (try replace HSF := HSF.next hb)
      (try replace B3 := B3.below hb B3.lt)
      (try replace RX := RX.below hb)
      (try replace RB := RB.below hb)
      replace G1 := G1.below hb G1.lt
      clear HY
      have HY := cells5 G1
      replace HB0 := btr HB0 HB0.size hb
      replace HS := Nat.le_trans HS hb.size
      refine hK.out _ _ ?_ (fun hNew => ?_)
      · (first | exact HY | assumption)
      clear hK K hHeld
      have hHeld := hNew
      clear hNew
      try simp only [Act.put, pz1, pz2, pz3]
      refine wpAnyH_take (i := 11) (oi := ⟨some 4, .assign (.tmp 28), 27, "chip.go:43", #[⟨10, .data⟩, ⟨5, .chain⟩, ⟨0, .phase⟩, ⟨1, .phase⟩, ⟨2, .phase⟩, ⟨3, .phase⟩, ⟨4, .phase⟩, ⟨5, .phase⟩, ⟨6, .phase⟩, ⟨7, .phase⟩, ⟨8, .phase⟩, ⟨9, .phase⟩, ⟨10, .phase⟩], none⟩) (v := ?_) rfl (by kernel_rfl) (by kernel_rfl) (by kernel_rfl) (fun _ _ _ h => h) (Or.inl ⟨by rfl, ?_⟩) (by assumption) ?_
      rotate_left
      · (intro wS hSw; (try dsimp only at hSw); go_simp; (try with_reducible rfl))
      try simp only [Act.put, pz1, pz2, pz3]
      refine wpAnyH_done (by kernel_rfl) ?_ _
      refine NoPanic.normal ?_
      go_wp2_with fail
      go_ret
      refine ⟨⟨m, gx, gb, AF, cf, rfl, ⟨⟨NX, NB, NX, NB, by simp [ChS.new], hNB, Nat.le_refl _, BM⟩, by simpa [ChS.new, byteV] using RX, by simpa [ChS.new] using RB, RF.at_ hfm hfx hfb, h1, h2, hxb, (List.length_replicate ..).trans HLX.out, (List.length_replicate ..).trans HLK.out, rfl, HP.out⟩, by omega, by omega, by omega⟩, HB0⟩
  · refine wp_build1b _ rfl 255 rfl ?_
    intro wN b3 B3 hq hb
    (try replace RF := RF.below_ hb)
    (try replace HSF := HSF.next hb)
    (try replace RX := RX.below hb)
    (try replace RB := RB.below hb)
    replace G1 := G1.below hb G1.lt
    clear HY
    have HY := cells5 G1
    replace HB0 := btr HB0 HB0.size hb
    replace HS := Nat.le_trans HS hb.size
    refine hK.out _ _ ?_ (fun hNew => ?_)
    · (first | exact HY | assumption)
    clear hK K hHeld
    have hHeld := hNew
    clear hNew
    try simp only [Act.put, pz1, pz2, pz3]
    refine wpAnyH_ready (rs := [2, 8]) (by kernel_rfl) (by simp) ?_
    refine (AllReadyH.cons (o := ⟨some 20, .call { callee := .value (.func 35), args := #[.tmp 19], argTypes := #[24] }, 24, "chip.go:45", #[⟨1, .data⟩], none⟩) rfl (fun K hK => ?_) (AllReadyH.cons (o := ⟨some 26, .makeSlice 69 (.tmp 25) (.tmp 25), 69, "chip.go:43", #[⟨7, .data⟩, ⟨7, .data⟩], none⟩) rfl (fun K hK => ?_) AllReadyH.nil))
    · go_simp
      (go_at_call 35; go_loud (((with_reducible refine (fclone_any fs _ _ _ HSF hfl).mono ?_); rintro e' wN ⟨⟨AF, cf, rfl, RF, hqf⟩, hb⟩)))
      go_wp2_with fail
      (try have hfx := FNe.fresh hqf RX.lt)
      (try have hfb := FNe.fresh hqf RB.lt)
      (try replace HSF := HSF.next hb)
      (try replace B3 := B3.below hb B3.lt)
      (try replace RX := RX.below hb)
      (try replace RB := RB.below hb)
      replace G1 := G1.below hb G1.lt
      clear HY
      have HY := cells5 G1
      replace HB0 := btr HB0 HB0.size hb
      replace HS := Nat.le_trans HS hb.size
      refine hK.out _ _ ?_ (fun hNew => ?_)
      · (first | exact HY | assumption)
      clear hK K hHeld
      have hHeld := hNew
      clear hNew
      try simp only [Act.put, pz1, pz2, pz3]
      refine wpAnyH_ready (rs := [5, 8]) (by kernel_rfl) (by simp) ?_
      refine (AllReadyH.cons (o := ⟨some 23, .call { callee := .value (.func 36), args := #[.tmp 21, .tmp 22], argTypes := #[48, 3] }, 48, "chip.go:46", #[⟨3, .data⟩, ⟨4, .data⟩, ⟨2, .chain⟩], none⟩) rfl (fun K hK => ?_) (AllReadyH.cons (o := ⟨some 26, .makeSlice 69 (.tmp 25) (.tmp 25), 69, "chip.go:43", #[⟨7, .data⟩, ⟨7, .data⟩], none⟩) rfl (fun K hK => ?_) AllReadyH.nil))
      · go_simp
        (go_at_call 36; go_loud (((with_reducible refine (rptB_b 255 b3 NX _ B3 n1 n2).mono ?_); rintro e' wN ⟨gx, rfl, hqx, RX, hb⟩)))
        go_wp2_with fail
        have hgx := Nat.le_trans HS hqx
        (try have hxb := Nat.ne_of_gt (Nat.lt_of_lt_of_le RB.lt hqx))
        (try have hfx := RF.ne hqx)
        (try replace RF := RF.below_ hb)
        (try replace HSF := HSF.next hb)
        (try replace B3 := B3.below hb B3.lt)
        (try replace RB := RB.below hb)
        replace G1 := G1.below hb G1.lt
        clear HY
        have HY := cells5 G1
        replace HB0 := btr HB0 HB0.size hb
        replace HS := Nat.le_trans HS hb.size
        refine hK.out _ _ ?_ (fun hNew => ?_)
        · (first | exact HY | assumption)
        clear hK K hHeld
        have hHeld := hNew
        clear hNew
        try simp only [Act.put, pz1, pz2, pz3]
        refine wpAnyH_ready (rs := [8]) (by kernel_rfl) (by simp) ?_
        refine AllReadyH.cons (o := ⟨some 26, .makeSlice 69 (.tmp 25) (.tmp 25), 69, "chip.go:43", #[⟨7, .data⟩, ⟨7, .data⟩], none⟩) rfl (fun K hK => ?_) AllReadyH.nil
        refine wp_makeK _ _ rfl a NB rfl rfl hNB (by omega) ?_
        intro wN gb RB hqb hb
        have hgb := Nat.le_trans HS hqb
        (try have hxb := Nat.ne_of_lt (Nat.lt_of_lt_of_le RX.lt hqb))
        (try have hfb := RF.ne hqb)
        (try replace RF := RF.below_ hb)
        (try replace HSF := HSF.next hb)
        (try replace B3 := B3.below hb B3.lt)
        (try replace RX := RX.below hb)
        replace G1 := G1.below hb G1.lt
        clear HY
        have HY := cells5 G1
        replace HB0 := btr HB0 HB0.size hb
        replace HS := Nat.le_trans HS hb.size
        refine hK.out _ _ ?_ (fun hNew => ?_)
        · (first | exact HY | assumption)
        clear hK K hHeld
        have hHeld := hNew
        clear hNew
        try simp only [Act.put, pz1, pz2, pz3]
        refine wpAnyH_take (i := 9) (oi := ⟨some 27, .build 71 #[(0, .tmp 18), (1, .tmp 20), (2, .tmp 23), (3, .tmp 26), (6, .const (.bool true))], 71, "chip.go:43", #[⟨0, .data⟩, ⟨2, .data⟩, ⟨5, .data⟩, ⟨8, .data⟩], none⟩) (v := ?_) rfl (by kernel_rfl) (by kernel_rfl) (by kernel_rfl) (fun _ _ _ h => h) (Or.inl ⟨by rfl, ?_⟩) (by assumption) ?_
        rotate_left
        · (intro wS hSw; (try dsimp only at hSw); go_simp; (try with_reducible rfl))
        try simp only [Act.put, pz1, pz2, pz3]
        refine wpAnyH_ready (rs := [10]) (by kernel_rfl) (by simp) ?_
        refine AllReadyH.cons (o := ⟨some 28, .box 71 (.tmp 27), 27, "chip.go:43", #[⟨9, .data⟩], none⟩) rfl (fun K hK => ?_) AllReadyH.nil
        refine wp_boxF _ rfl rfl ?_
        intro wN m BM hqm hb
        have hm := Nat.le_trans HS hqm
        have h1 : m ≠ gx := Nat.ne_of_gt (Nat.lt_of_lt_of_le RX.lt hqm)
        have h2 : m ≠ gb := Nat.ne_of_gt (Nat.lt_of_lt_of_le RB.lt hqm)
        have hfm := RF.ne hqm
        (try replace RF := RF.below_ hb)
        (try replace HSF := HSF.next hb)
        (try replace B3 := B3.below hb B3.lt)
        (try replace RX := RX.below hb)
        (try replace RB := RB.below hb)
        replace G1 := G1.below hb G1.lt
        clear HY
        have HY := cells5 G1
        replace HB0 := btr HB0 HB0.size hb
        replace HS := Nat.le_trans HS hb.size
        refine hK.out _ _ ?_ (fun hNew => ?_)
        · (first | exact HY | assumption)
        clear hK K hHeld
        have hHeld := hNew
        clear hNew
        try simp only [Act.put, pz1, pz2, pz3]
        refine wpAnyH_take (i := 11) (oi := ⟨some 4, .assign (.tmp 28), 27, "chip.go:43", #[⟨10, .data⟩, ⟨5, .chain⟩, ⟨0, .phase⟩, ⟨1, .phase⟩, ⟨2, .phase⟩, ⟨3, .phase⟩, ⟨4, .phase⟩, ⟨5, .phase⟩, ⟨6, .phase⟩, ⟨7, .phase⟩, ⟨8, .phase⟩, ⟨9, .phase⟩, ⟨10, .phase⟩], none⟩) (v := ?_) rfl (by kernel_rfl) (by kernel_rfl) (by kernel_rfl) (fun _ _ _ h => h) (Or.inl ⟨by rfl, ?_⟩) (by assumption) ?_
        rotate_left
        · (intro wS hSw; (try dsimp only at hSw); go_simp; (try with_reducible rfl))
        try simp only [Act.put, pz1, pz2, pz3]
        refine wpAnyH_done (by kernel_rfl) ?_ _
        refine NoPanic.normal ?_
        go_wp2_with fail
        go_ret
        refine ⟨⟨m, gx, gb, AF, cf, rfl, ⟨⟨NX, NB, NX, NB, by simp [ChS.new], hNB, Nat.le_refl _, BM⟩, by simpa [ChS.new, byteV] using RX, by simpa [ChS.new] using RB, RF.at_ hfm hfx hfb, h1, h2, hxb, (List.length_replicate ..).trans HLX.out, (List.length_replicate ..).trans HLK.out, rfl, HP.out⟩, by omega, by omega, by omega⟩, HB0⟩
      · refine wp_makeK _ _ rfl a NB rfl rfl hNB (by omega) ?_
        intro wN gb RB hqb hb
        have hgb := Nat.le_trans HS hqb
        (try have hxb := Nat.ne_of_lt (Nat.lt_of_lt_of_le RX.lt hqb))
        (try have hfb := RF.ne hqb)
        (try replace RF := RF.below_ hb)
        (try replace HSF := HSF.next hb)
        (try replace B3 := B3.below hb B3.lt)
        (try replace RX := RX.below hb)
        replace G1 := G1.below hb G1.lt
        clear HY
        have HY := cells5 G1
        replace HB0 := btr HB0 HB0.size hb
        replace HS := Nat.le_trans HS hb.size
        refine hK.out _ _ ?_ (fun hNew => ?_)
        · (first | exact HY | assumption)
        clear hK K hHeld
        have hHeld := hNew
        clear hNew
        try simp only [Act.put, pz1, pz2, pz3]
        refine wpAnyH_ready (rs := [5]) (by kernel_rfl) (by simp) ?_
        refine AllReadyH.cons (o := ⟨some 23, .call { callee := .value (.func 36), args := #[.tmp 21, .tmp 22], argTypes := #[48, 3] }, 48, "chip.go:46", #[⟨3, .data⟩, ⟨4, .data⟩, ⟨2, .chain⟩], none⟩) rfl (fun K hK => ?_) AllReadyH.nil
        go_simp
        (go_at_call 36; go_loud (((with_reducible refine (rptB_b 255 b3 NX _ B3 n1 n2).mono ?_); rintro e' wN ⟨gx, rfl, hqx, RX, hb⟩)))
        go_wp2_with fail
        have hgx := Nat.le_trans HS hqx
        (try have hxb := Nat.ne_of_gt (Nat.lt_of_lt_of_le RB.lt hqx))
        (try have hfx := RF.ne hqx)
        (try replace RF := RF.below_ hb)
        (try replace HSF := HSF.next hb)
        (try replace B3 := B3.below hb B3.lt)
        (try replace RB := RB.below hb)
        replace G1 := G1.below hb G1.lt
        clear HY
        have HY := cells5 G1
        replace HB0 := btr HB0 HB0.size hb
        replace HS := Nat.le_trans HS hb.size
        refine hK.out _ _ ?_ (fun hNew => ?_)
        · (first | exact HY | assumption)
        clear hK K hHeld
        have hHeld := hNew
        clear hNew
        try simp only [Act.put, pz1, pz2, pz3]
        refine wpAnyH_take (i := 9) (oi := ⟨some 27, .build 71 #[(0, .tmp 18), (1, .tmp 20), (2, .tmp 23), (3, .tmp 26), (6, .const (.bool true))], 71, "chip.go:43", #[⟨0, .data⟩, ⟨2, .data⟩, ⟨5, .data⟩, ⟨8, .data⟩], none⟩) (v := ?_) rfl (by kernel_rfl) (by kernel_rfl) (by kernel_rfl) (fun _ _ _ h => h) (Or.inl ⟨by rfl, ?_⟩) (by assumption) ?_
        rotate_left
        · (intro wS hSw; (try dsimp only at hSw); go_simp; (try with_reducible rfl))
        try simp only [Act.put, pz1, pz2, pz3]
        refine wpAnyH_ready (rs := [10]) (by kernel_rfl) (by simp) ?_
        refine AllReadyH.cons (o := ⟨some 28, .box 71 (.tmp 27), 27, "chip.go:43", #[⟨9, .data⟩], none⟩) rfl (fun K hK => ?_) AllReadyH.nil
        refine wp_boxF _ rfl rfl ?_
        intro wN m BM hqm hb
        have hm := Nat.le_trans HS hqm
        have h1 : m ≠ gx := Nat.ne_of_gt (Nat.lt_of_lt_of_le RX.lt hqm)
        have h2 : m ≠ gb := Nat.ne_of_gt (Nat.lt_of_lt_of_le RB.lt hqm)
        have hfm := RF.ne hqm
        (try replace RF := RF.below_ hb)
        (try replace HSF := HSF.next hb)
        (try replace B3 := B3.below hb B3.lt)
        (try replace RX := RX.below hb)
        (try replace RB := RB.below hb)
        replace G1 := G1.below hb G1.lt
        clear HY
        have HY := cells5 G1
        replace HB0 := btr HB0 HB0.size hb
        replace HS := Nat.le_trans HS hb.size
        refine hK.out _ _ ?_ (fun hNew => ?_)
        · (first | exact HY | assumption)
        clear hK K hHeld
        have hHeld := hNew
        clear hNew
        try simp only [Act.put, pz1, pz2, pz3]
        refine wpAnyH_take (i := 11) (oi := ⟨some 4, .assign (.tmp 28), 27, "chip.go:43", #[⟨10, .data⟩, ⟨5, .chain⟩, ⟨0, .phase⟩, ⟨1, .phase⟩, ⟨2, .phase⟩, ⟨3, .phase⟩, ⟨4, .phase⟩, ⟨5, .phase⟩, ⟨6, .phase⟩, ⟨7, .phase⟩, ⟨8, .phase⟩, ⟨9, .phase⟩, ⟨10, .phase⟩], none⟩) (v := ?_) rfl (by kernel_rfl) (by kernel_rfl) (by kernel_rfl) (fun _ _ _ h => h) (Or.inl ⟨by rfl, ?_⟩) (by assumption) ?_
        rotate_left
        · (intro wS hSw; (try dsimp only at hSw); go_simp; (try with_reducible rfl))
        try simp only [Act.put, pz1, pz2, pz3]
        refine wpAnyH_done (by kernel_rfl) ?_ _
        refine NoPanic.normal ?_
        go_wp2_with fail
        go_ret
        refine ⟨⟨m, gx, gb, AF, cf, rfl, ⟨⟨NX, NB, NX, NB, by simp [ChS.new], hNB, Nat.le_refl _, BM⟩, by simpa [ChS.new, byteV] using RX, by simpa [ChS.new] using RB, RF.at_ hfm hfx hfb, h1, h2, hxb, (List.length_replicate ..).trans HLX.out, (List.length_replicate ..).trans HLK.out, rfl, HP.out⟩, by omega, by omega, by omega⟩, HB0⟩
    · refine wp_makeK _ _ rfl a NB rfl rfl hNB (by omega) ?_
      intro wN gb RB hqb hb
      have hgb := Nat.le_trans HS hqb
      (try have hxb := Nat.ne_of_lt (Nat.lt_of_lt_of_le RX.lt hqb))
      (try have hfb := RF.ne hqb)
      (try replace RF := RF.below_ hb)
      (try replace HSF := HSF.next hb)
      (try replace B3 := B3.below hb B3.lt)
      (try replace RX := RX.below hb)
      replace G1 := G1.below hb G1.lt
      clear HY
      have HY := cells5 G1
      replace HB0 := btr HB0 HB0.size hb
      replace HS := Nat.le_trans HS hb.size
      refine hK.out _ _ ?_ (fun hNew => ?_)
      · (first | exact HY | assumption)
      clear hK K hHeld
      have hHeld := hNew
      clear hNew
      try simp only [Act.put, pz1, pz2, pz3]
      refine wpAnyH_ready (rs := [2]) (by kernel_rfl) (by simp) ?_
      refine AllReadyH.cons (o := ⟨some 20, .call { callee := .value (.func 35), args := #[.tmp 19], argTypes := #[24] }, 24, "chip.go:45", #[⟨1, .data⟩], none⟩) rfl (fun K hK => ?_) AllReadyH.nil
      go_simp
      (go_at_call 35; go_loud (((with_reducible refine (fclone_any fs _ _ _ HSF hfl).mono ?_); rintro e' wN ⟨⟨AF, cf, rfl, RF, hqf⟩, hb⟩)))
      go_wp2_with fail
      (try have hfx := FNe.fresh hqf RX.lt)
      (try have hfb := FNe.fresh hqf RB.lt)
      (try replace HSF := HSF.next hb)
      (try replace B3 := B3.below hb B3.lt)
      (try replace RX := RX.below hb)
      (try replace RB := RB.below hb)
      replace G1 := G1.below hb G1.lt
      clear HY
      have HY := cells5 G1
      replace HB0 := btr HB0 HB0.size hb
      replace HS := Nat.le_trans HS hb.size
      refine hK.out _ _ ?_ (fun hNew => ?_)
      · (first | exact HY | assumption)
      clear hK K hHeld
      have hHeld := hNew
      clear hNew
      try simp only [Act.put, pz1, pz2, pz3]
      refine wpAnyH_ready (rs := [5]) (by kernel_rfl) (by simp) ?_
      refine AllReadyH.cons (o := ⟨some 23, .call { callee := .value (.func 36), args := #[.tmp 21, .tmp 22], argTypes := #[48, 3] }, 48, "chip.go:46", #[⟨3, .data⟩, ⟨4, .data⟩, ⟨2, .chain⟩], none⟩) rfl (fun K hK => ?_) AllReadyH.nil
      go_simp
      (go_at_call 36; go_loud (((with_reducible refine (rptB_b 255 b3 NX _ B3 n1 n2).mono ?_); rintro e' wN ⟨gx, rfl, hqx, RX, hb⟩)))
      go_wp2_with fail
      have hgx := Nat.le_trans HS hqx
      (try have hxb := Nat.ne_of_gt (Nat.lt_of_lt_of_le RB.lt hqx))
      (try have hfx := RF.ne hqx)
      (try replace RF := RF.below_ hb)
      (try replace HSF := HSF.next hb)
      (try replace B3 := B3.below hb B3.lt)
      (try replace RB := RB.below hb)
      replace G1 := G1.below hb G1.lt
      clear HY
      have HY := cells5 G1
      replace HB0 := btr HB0 HB0.size hb
      replace HS := Nat.le_trans HS hb.size
      refine hK.out _ _ ?_ (fun hNew => ?_)
      · (first | exact HY | assumption)
      clear hK K hHeld
      have hHeld := hNew
      clear hNew
      try simp only [Act.put, pz1, pz2, pz3]
      refine wpAnyH_take (i := 9) (oi := ⟨some 27, .build 71 #[(0, .tmp 18), (1, .tmp 20), (2, .tmp 23), (3, .tmp 26), (6, .const (.bool true))], 71, "chip.go:43", #[⟨0, .data⟩, ⟨2, .data⟩, ⟨5, .data⟩, ⟨8, .data⟩], none⟩) (v := ?_) rfl (by kernel_rfl) (by kernel_rfl) (by kernel_rfl) (fun _ _ _ h => h) (Or.inl ⟨by rfl, ?_⟩) (by assumption) ?_
      rotate_left
      · (intro wS hSw; (try dsimp only at hSw); go_simp; (try with_reducible rfl))
      try simp only [Act.put, pz1, pz2, pz3]
      refine wpAnyH_ready (rs := [10]) (by kernel_rfl) (by simp) ?_
      refine AllReadyH.cons (o := ⟨some 28, .box 71 (.tmp 27), 27, "chip.go:43", #[⟨9, .data⟩], none⟩) rfl (fun K hK => ?_) AllReadyH.nil
      refine wp_boxF _ rfl rfl ?_
      intro wN m BM hqm hb
      have hm := Nat.le_trans HS hqm
      have h1 : m ≠ gx := Nat.ne_of_gt (Nat.lt_of_lt_of_le RX.lt hqm)
      have h2 : m ≠ gb := Nat.ne_of_gt (Nat.lt_of_lt_of_le RB.lt hqm)
      have hfm := RF.ne hqm
      (try replace RF := RF.below_ hb)
      (try replace HSF := HSF.next hb)
      (try replace B3 := B3.below hb B3.lt)
      (try replace RX := RX.below hb)
      (try replace RB := RB.below hb)
      replace G1 := G1.below hb G1.lt
      clear HY
      have HY := cells5 G1
      replace HB0 := btr HB0 HB0.size hb
      replace HS := Nat.le_trans HS hb.size
      refine hK.out _ _ ?_ (fun hNew => ?_)
      · (first | exact HY | assumption)
      clear hK K hHeld
      have hHeld := hNew
      clear hNew
      try simp only [Act.put, pz1, pz2, pz3]
      refine wpAnyH_take (i := 11) (oi := ⟨some 4, .assign (.tmp 28), 27, "chip.go:43", #[⟨10, .data⟩, ⟨5, .chain⟩, ⟨0, .phase⟩, ⟨1, .phase⟩, ⟨2, .phase⟩, ⟨3, .phase⟩, ⟨4, .phase⟩, ⟨5, .phase⟩, ⟨6, .phase⟩, ⟨7, .phase⟩, ⟨8, .phase⟩, ⟨9, .phase⟩, ⟨10, .phase⟩], none⟩) (v := ?_) rfl (by kernel_rfl) (by kernel_rfl) (by kernel_rfl) (fun _ _ _ h => h) (Or.inl ⟨by rfl, ?_⟩) (by assumption) ?_
      rotate_left
      · (intro wS hSw; (try dsimp only at hSw); go_simp; (try with_reducible rfl))
      try simp only [Act.put, pz1, pz2, pz3]
      refine wpAnyH_done (by kernel_rfl) ?_ _
      refine NoPanic.normal ?_
      go_wp2_with fail
      go_ret
      refine ⟨⟨m, gx, gb, AF, cf, rfl, ⟨⟨NX, NB, NX, NB, by simp [ChS.new], hNB, Nat.le_refl _, BM⟩, by simpa [ChS.new, byteV] using RX, by simpa [ChS.new] using RB, RF.at_ hfm hfx hfb, h1, h2, hxb, (List.length_replicate ..).trans HLX.out, (List.length_replicate ..).trans HLK.out, rfl, HP.out⟩, by omega, by omega, by omega⟩, HB0⟩
  · refine wp_makeK _ _ rfl a NB rfl rfl hNB (by omega) ?_
    intro wN gb RB hqb hb
    have hgb := Nat.le_trans HS hqb
    (try have hxb := Nat.ne_of_lt (Nat.lt_of_lt_of_le RX.lt hqb))
    (try have hfb := RF.ne hqb)
    (try replace RF := RF.below_ hb)
    (try replace HSF := HSF.next hb)
    (try replace B3 := B3.below hb B3.lt)
    (try replace RX := RX.below hb)
    replace G1 := G1.below hb G1.lt
    clear HY
    have HY := cells5 G1
    replace HB0 := btr HB0 HB0.size hb
    replace HS := Nat.le_trans HS hb.size
    refine hK.out _ _ ?_ (fun hNew => ?_)
    · (first | exact HY | assumption)
    clear hK K hHeld
    have hHeld := hNew
    clear hNew
    try simp only [Act.put, pz1, pz2, pz3]
    refine wpAnyH_ready (rs := [2, 3]) (by kernel_rfl) (by simp) ?_
    refine (AllReadyH.cons (o := ⟨some 20, .call { callee := .value (.func 35), args := #[.tmp 19], argTypes := #[24] }, 24, "chip.go:45", #[⟨1, .data⟩], none⟩) rfl (fun K hK => ?_) (AllReadyH.cons (o := ⟨some 21, .buildSlice 48 1 #[(0, .const (.int .u8 255))], 48, "chip.go:43", #[], none⟩) rfl (fun K hK => ?_) AllReadyH.nil))
    · go_simp
      (go_at_call 35; go_loud (((with_reducible refine (fclone_any fs _ _ _ HSF hfl).mono ?_); rintro e' wN ⟨⟨AF, cf, rfl, RF, hqf⟩, hb⟩)))
      go_wp2_with fail
      (try have hfx := FNe.fresh hqf RX.lt)
      (try have hfb := FNe.fresh hqf RB.lt)
      (try replace HSF := HSF.next hb)
      (try replace B3 := B3.below hb B3.lt)
      (try replace RX := RX.below hb)
      (try replace RB := RB.below hb)
      replace G1 := G1.below hb G1.lt
      clear HY
      have HY := cells5 G1
      replace HB0 := btr HB0 HB0.size hb
      replace HS := Nat.le_trans HS hb.size
      refine hK.out _ _ ?_ (fun hNew => ?_)
      · (first | exact HY | assumption)
      clear hK K hHeld
      have hHeld := hNew
      clear hNew
      try simp only [Act.put, pz1, pz2, pz3]
      refine wpAnyH_ready (rs := [3]) (by kernel_rfl) (by simp) ?_
      refine AllReadyH.cons (o := ⟨some 21, .buildSlice 48 1 #[(0, .const (.int .u8 255))], 48, "chip.go:43", #[], none⟩) rfl (fun K hK => ?_) AllReadyH.nil
      refine wp_build1b _ rfl 255 rfl ?_
      intro wN b3 B3 hq hb
      (try replace RF := RF.below_ hb)
      (try replace HSF := HSF.next hb)
      (try replace RX := RX.below hb)
      (try replace RB := RB.below hb)
      replace G1 := G1.below hb G1.lt
      clear HY
      have HY := cells5 G1
      replace HB0 := btr HB0 HB0.size hb
      replace HS := Nat.le_trans HS hb.size
      refine hK.out _ _ ?_ (fun hNew => ?_)
      · (first | exact HY | assumption)
      clear hK K hHeld
      have hHeld := hNew
      clear hNew
      try simp only [Act.put, pz1, pz2, pz3]
      refine wpAnyH_ready (rs := [5]) (by kernel_rfl) (by simp) ?_
      refine AllReadyH.cons (o := ⟨some 23, .call { callee := .value (.func 36), args := #[.tmp 21, .tmp 22], argTypes := #[48, 3] }, 48, "chip.go:46", #[⟨3, .data⟩, ⟨4, .data⟩, ⟨2, .chain⟩], none⟩) rfl (fun K hK => ?_) AllReadyH.nil
      go_simp
      (go_at_call 36; go_loud (((with_reducible refine (rptB_b 255 b3 NX _ B3 n1 n2).mono ?_); rintro e' wN ⟨gx, rfl, hqx, RX, hb⟩)))
      go_wp2_with fail
      have hgx := Nat.le_trans HS hqx
      (try have hxb := Nat.ne_of_gt (Nat.lt_of_lt_of_le RB.lt hqx))
      (try have hfx := RF.ne hqx)
      (try replace RF := RF.below_ hb)
      (try replace HSF := HSF.next hb)
      (try replace B3 := B3.below hb B3.lt)
      (try replace RB := RB.below hb)
      replace G1 := G1.below hb G1.lt
      clear HY
      have HY := cells5 G1
      replace HB0 := btr HB0 HB0.size hb
      replace HS := Nat.le_trans HS hb.size
      refine hK.out _ _ ?_ (fun hNew => ?_)
      · (first | exact HY | assumption)
      clear hK K hHeld
      have hHeld := hNew
      clear hNew
      try simp only [Act.put, pz1, pz2, pz3]
      refine wpAnyH_take (i := 9) (oi := ⟨some 27, .build 71 #[(0, .tmp 18), (1, .tmp 20), (2, .tmp 23), (3, .tmp 26), (6, .const (.bool true))], 71, "chip.go:43", #[⟨0, .data⟩, ⟨2, .data⟩, ⟨5, .data⟩, ⟨8, .data⟩], none⟩) (v := ?_) rfl (by kernel_rfl) (by kernel_rfl) (by kernel_rfl) (fun _ _ _ h => h) (Or.inl ⟨by rfl, ?_⟩) (by assumption) ?_
      rotate_left
      · (intro wS hSw; (try dsimp only at hSw); go_simp; (try with_reducible rfl))
      try simp only [Act.put, pz1, pz2, pz3]
      refine wpAnyH_ready (rs := [10]) (by kernel_rfl) (by simp) ?_
      refine AllReadyH.cons (o := ⟨some 28, .box 71 (.tmp 27), 27, "chip.go:43", #[⟨9, .data⟩], none⟩) rfl (fun K hK => ?_) AllReadyH.nil
      refine wp_boxF _ rfl rfl ?_
      intro wN m BM hqm hb
      have hm := Nat.le_trans HS hqm
      have h1 : m ≠ gx := Nat.ne_of_gt (Nat.lt_of_lt_of_le RX.lt hqm)
      have h2 : m ≠ gb := Nat.ne_of_gt (Nat.lt_of_lt_of_le RB.lt hqm)
      have hfm := RF.ne hqm
      (try replace RF := RF.below_ hb)
      (try replace HSF := HSF.next hb)
      (try replace B3 := B3.below hb B3.lt)
      (try replace RX := RX.below hb)
      (try replace RB := RB.below hb)
      replace G1 := G1.below hb G1.lt
      clear HY
      have HY := cells5 G1
      replace HB0 := btr HB0 HB0.size hb
      replace HS := Nat.le_trans HS hb.size
      refine hK.out _ _ ?_ (fun hNew => ?_)
      · (first | exact HY | assumption)
      clear hK K hHeld
      have hHeld := hNew
      clear hNew
      try simp only [Act.put, pz1, pz2, pz3]
      refine wpAnyH_take (i := 11) (oi := ⟨some 4, .assign (.tmp 28), 27, "chip.go:43", #[⟨10, .data⟩, ⟨5, .chain⟩, ⟨0, .phase⟩, ⟨1, .phase⟩, ⟨2, .phase⟩, ⟨3, .phase⟩, ⟨4, .phase⟩, ⟨5, .phase⟩, ⟨6, .phase⟩, ⟨7, .phase⟩, ⟨8, .phase⟩, ⟨9, .phase⟩, ⟨10, .phase⟩], none⟩) (v := ?_) rfl (by kernel_rfl) (by kernel_rfl) (by kernel_rfl) (fun _ _ _ h => h) (Or.inl ⟨by rfl, ?_⟩) (by assumption) ?_
      rotate_left
      · (intro wS hSw; (try dsimp only at hSw); go_simp; (try with_reducible rfl))
      try simp only [Act.put, pz1, pz2, pz3]
      refine wpAnyH_done (by kernel_rfl) ?_ _
      refine NoPanic.normal ?_
      go_wp2_with fail
      go_ret
      refine ⟨⟨m, gx, gb, AF, cf, rfl, ⟨⟨NX, NB, NX, NB, by simp [ChS.new], hNB, Nat.le_refl _, BM⟩, by simpa [ChS.new, byteV] using RX, by simpa [ChS.new] using RB, RF.at_ hfm hfx hfb, h1, h2, hxb, (List.length_replicate ..).trans HLX.out, (List.length_replicate ..).trans HLK.out, rfl, HP.out⟩, by omega, by omega, by omega⟩, HB0⟩
    · refine wp_build1b _ rfl 255 rfl ?_
      intro wN b3 B3 hq hb
      (try replace RF := RF.below_ hb)
      (try replace HSF := HSF.next hb)
      (try replace RX := RX.below hb)
      (try replace RB := RB.below hb)
      replace G1 := G1.below hb G1.lt
      clear HY
      have HY := cells5 G1
      replace HB0 := btr HB0 HB0.size hb
      replace HS := Nat.le_trans HS hb.size
      refine hK.out _ _ ?_ (fun hNew => ?_)
      · (first | exact HY | assumption)
      clear hK K hHeld
      have hHeld := hNew
      clear hNew
      try simp only [Act.put, pz1, pz2, pz3]
      refine wpAnyH_ready (rs := [2]) (by kernel_rfl) (by simp) ?_
      refine AllReadyH.cons (o := ⟨some 20, .call { callee := .value (.func 35), args := #[.tmp 19], argTypes := #[24] }, 24, "chip.go:45", #[⟨1, .data⟩], none⟩) rfl (fun K hK => ?_) AllReadyH.nil
      go_simp
      (go_at_call 35; go_loud (((with_reducible refine (fclone_any fs _ _ _ HSF hfl).mono ?_); rintro e' wN ⟨⟨AF, cf, rfl, RF, hqf⟩, hb⟩)))
      go_wp2_with fail
      (try have hfx := FNe.fresh hqf RX.lt)
      (try have hfb := FNe.fresh hqf RB.lt)
      (try replace HSF := HSF.next hb)
      (try replace B3 := B3.below hb B3.lt)
      (try replace RX := RX.below hb)
      (try replace RB := RB.below hb)
      replace G1 := G1.below hb G1.lt
      clear HY
      have HY := cells5 G1
      replace HB0 := btr HB0 HB0.size hb
      replace HS := Nat.le_trans HS hb.size
      refine hK.out _ _ ?_ (fun hNew => ?_)
      · (first | exact HY | assumption)
      clear hK K hHeld
      have hHeld := hNew
      clear hNew
      try simp only [Act.put, pz1, pz2, pz3]
      refine wpAnyH_ready (rs := [5]) (by kernel_rfl) (by simp) ?_
      refine AllReadyH.cons (o := ⟨some 23, .call { callee := .value (.func 36), args := #[.tmp 21, .tmp 22], argTypes := #[48, 3] }, 48, "chip.go:46", #[⟨3, .data⟩, ⟨4, .data⟩, ⟨2, .chain⟩], none⟩) rfl (fun K hK => ?_) AllReadyH.nil
      go_simp
      (go_at_call 36; go_loud (((with_reducible refine (rptB_b 255 b3 NX _ B3 n1 n2).mono ?_); rintro e' wN ⟨gx, rfl, hqx, RX, hb⟩)))
      go_wp2_with fail
      have hgx := Nat.le_trans HS hqx
      (try have hxb := Nat.ne_of_gt (Nat.lt_of_lt_of_le RB.lt hqx))
      (try have hfx := RF.ne hqx)
      (try replace RF := RF.below_ hb)
      (try replace HSF := HSF.next hb)
      (try replace B3 := B3.below hb B3.lt)
      (try replace RB := RB.below hb)
      replace G1 := G1.below hb G1.lt
      clear HY
      have HY := cells5 G1
      replace HB0 := btr HB0 HB0.size hb
      replace HS := Nat.le_trans HS hb.size
      refine hK.out _ _ ?_ (fun hNew => ?_)
      · (first | exact HY | assumption)
      clear hK K hHeld
      have hHeld := hNew
      clear hNew
      try simp only [Act.put, pz1, pz2, pz3]
      refine wpAnyH_take (i := 9) (oi := ⟨some 27, .build 71 #[(0, .tmp 18), (1, .tmp 20), (2, .tmp 23), (3, .tmp 26), (6, .const (.bool true))], 71, "chip.go:43", #[⟨0, .data⟩, ⟨2, .data⟩, ⟨5, .data⟩, ⟨8, .data⟩], none⟩) (v := ?_) rfl (by kernel_rfl) (by kernel_rfl) (by kernel_rfl) (fun _ _ _ h => h) (Or.inl ⟨by rfl, ?_⟩) (by assumption) ?_
      rotate_left
      · (intro wS hSw; (try dsimp only at hSw); go_simp; (try with_reducible rfl))
      try simp only [Act.put, pz1, pz2, pz3]
      refine wpAnyH_ready (rs := [10]) (by kernel_rfl) (by simp) ?_
      refine AllReadyH.cons (o := ⟨some 28, .box 71 (.tmp 27), 27, "chip.go:43", #[⟨9, .data⟩], none⟩) rfl (fun K hK => ?_) AllReadyH.nil
      refine wp_boxF _ rfl rfl ?_
      intro wN m BM hqm hb
      have hm := Nat.le_trans HS hqm
      have h1 : m ≠ gx := Nat.ne_of_gt (Nat.lt_of_lt_of_le RX.lt hqm)
      have h2 : m ≠ gb := Nat.ne_of_gt (Nat.lt_of_lt_of_le RB.lt hqm)
      have hfm := RF.ne hqm
      (try replace RF := RF.below_ hb)
      (try replace HSF := HSF.next hb)
      (try replace B3 := B3.below hb B3.lt)
      (try replace RX := RX.below hb)
      (try replace RB := RB.below hb)
      replace G1 := G1.below hb G1.lt
      clear HY
      have HY := cells5 G1
      replace HB0 := btr HB0 HB0.size hb
      replace HS := Nat.le_trans HS hb.size
      refine hK.out _ _ ?_ (fun hNew => ?_)
      · (first | exact HY | assumption)
      clear hK K hHeld
      have hHeld := hNew
      clear hNew
      try simp only [Act.put, pz1, pz2, pz3]
      refine wpAnyH_take (i := 11) (oi := ⟨some 4, .assign (.tmp 28), 27, "chip.go:43", #[⟨10, .data⟩, ⟨5, .chain⟩, ⟨0, .phase⟩, ⟨1, .phase⟩, ⟨2, .phase⟩, ⟨3, .phase⟩, ⟨4, .phase⟩, ⟨5, .phase⟩, ⟨6, .phase⟩, ⟨7, .phase⟩, ⟨8, .phase⟩, ⟨9, .phase⟩, ⟨10, .phase⟩], none⟩) (v := ?_) rfl (by kernel_rfl) (by kernel_rfl) (by kernel_rfl) (fun _ _ _ h => h) (Or.inl ⟨by rfl, ?_⟩) (by assumption) ?_
      rotate_left
      · (intro wS hSw; (try dsimp only at hSw); go_simp; (try with_reducible rfl))
      try simp only [Act.put, pz1, pz2, pz3]
      refine wpAnyH_done (by kernel_rfl) ?_ _
      refine NoPanic.normal ?_
      go_wp2_with fail
      go_ret
      refine ⟨⟨m, gx, gb, AF, cf, rfl, ⟨⟨NX, NB, NX, NB, by simp [ChS.new], hNB, Nat.le_refl _, BM⟩, by simpa [ChS.new, byteV] using RX, by simpa [ChS.new] using RB, RF.at_ hfm hfx hfb, h1, h2, hxb, (List.length_replicate ..).trans HLX.out, (List.length_replicate ..).trans HLK.out, rfl, HP.out⟩, by omega, by omega, by omega⟩, HB0⟩
end Go.Proofs.Ytplniojeaodjiaa
namespace Go.Proofs.Ytplniojeaodjiaa
open Go.ChangeShapes Go.WideShapes Go.ChangeAt Go.RowKit
set_option linter.unusedSimpArgs false
set_option linter.unusedVariables false

theorem prog_len (m gx gb : Nat) (Af : Option Addr) (nf cf : Nat) (a b c d e : Int) (fs : List Flt) (RW : Nat) (x y : Int) (A : Option Addr) (nb cA : Nat) (w : World) (s : ChS) (hC : ChipW w m gx gb Af nf cf a b c d e fs s) (ho : s.on = true) (ht : Hid (thereB a b x y = true)) (HRW : Hid ((RW : Int) = c + 16)) (hne : nb ≠ RW) : Calls Try.prog 17 #[.pointer (some ⟨m, 0, none⟩), .agg #[.int .i64 x, .int .i64 y], .slice A nb cA] w fun e' w' => e' = .returned (.int .i64 2) ∧ Below w.heap.size w w' := by
  have HM := Lib.hid (planMay_bd hC.may).1
  have HB0 : Below w.heap.size w (w.alloc (.cells #[.int .i64 x, .int .i64 y] 33)) := (Below.refl _ _).alloc (Nat.le_refl _) _
  have G1 : Blk (w.alloc (.cells #[.int .i64 x, .int .i64 y] 33)) w.heap.size 33 #[.int .i64 x, .int .i64 y] := Blk.new_ _ _ _
  have z0 : (w.alloc (.cells #[.int .i64 x, .int .i64 y] 33)).cell? ⟨w.heap.size, 0, none⟩ = some (.int .i64 x) := G1.cell_ 0
  have z1 : (w.alloc (.cells #[.int .i64 x, .int .i64 y] 33)).cell? ⟨w.heap.size, 1, none⟩ = some (.int .i64 y) := G1.cell_ 1
  have hC := hC.below HB0
  have y10 := cell10 hC
  rw [ho] at y10
  clear ho
  have hnn : ((nb : Int) == (RW : Int)) = false := by simp; omega
  have hnm : ((nb : Int) != (RW : Int)) = true := by simp; omega
  clear hne
  go_enter Try.func17, Try.ntmps17
  go_wp2_with (first
    | (go_at_call 53; go_loud (((with_reducible refine (hasPage_b _ _ _ _ _ _ _ _ _ _ _ _ _ _ _ _ _ hC ht).mono ?_); rintro e' wN ⟨rfl, hb⟩; replace hC := hC.below hb; replace HB0 := btr HB0 HB0.size hb; obtain ⟨y0, y1, y2, y3, y4⟩ := geo5 hC)))
    | (go_at_call 34; go_loud (((with_reducible refine (raw_bb _ _ _ _ _ RW _ HM HRW).mono ?_); rintro e' wN ⟨rfl, hb⟩; replace HB0 := btr HB0 HB0.size hb))))
  go_ret
  exact ⟨rfl, HB0⟩
/-- Its numbers lie within bounds. -/
structure Fine (s : ChS) (n : Int) : Prop where
  bnd : s.Bnd n
  cby : 0 ≤ s.cby
  fill : s.fill < 256
def ChS.progZ (s : ChS) (a b c : Int) (fs : List Flt) (x y : Int) (L : Nat) : Int :=
  if s.on then (if thereB a b x y && decide ((L : Int) = c + 16) then (if s.cutB then 9 else s.wrong a fs x.toNat y.toNat) else 2) else 9
def ChS.progS (s : ChS) (a b c : Int) (fs : List Flt) (x y : Int) (bs : List Nat) : ChS :=
  if s.on && (thereB a b x y && decide ((bs.length : Int) = c + 16)) then
    (if s.wrong a fs x.toNat y.toNat = 0 then (if s.cutB then s.progCut x.toNat (x * b + y).toNat bs.length (bs.take (min bs.length s.cby.toNat)) else s.prog x.toNat (x * b + y).toNat bs.length bs) else s.tick)
  else s
theorem there_nat {a b x y : Int} (h : thereB a b x y = true) : ∃ k l : Nat, x = (k : Int) ∧ y = (l : Int) ∧ (k : Int) < a ∧ (l : Int) < b := by
  obtain ⟨h1, h2, h3, h4⟩ := there_bd h
  exact ⟨x.toNat, y.toNat, by omega, by omega, by omega, by omega⟩
def ChS.eraseZ (s : ChS) (a : Int) (fs : List Flt) (x : Int) : Int :=
  if s.on then (if inB a x then (if s.cutB then 9 else (if failedB a fs s x then 10 else 0)) else 2) else 9
def ChS.eraseS (s : ChS) (a b c : Int) (fs : List Flt) (x : Int) : ChS :=
  if s.on && inB a x then (if failedB a fs s x then s.tick else s.tick.wipe b x.toNat (b * (c + 16)).toNat (if s.cutB then s.fill else 255)) else s
theorem in_nat {a x : Int} (h : inB a x = true) : ∃ k : Nat, x = (k : Int) ∧ (k : Int) < a := by
  unfold inB at h
  simp only [Bool.and_eq_true, decide_eq_true_eq] at h
  exact ⟨x.toNat, by omega, by omega⟩
theorem erase_all (m gx gb : Nat) (Af : Option Addr) (nf cf : Nat) (a b c d e : Int) (fs : List Flt) (x : Int) (n : Int) (w : World) (s : ChS) (hC : ChipW w m gx gb Af nf cf a b c d e fs s) (hs : Fine s n) (hn : n ≤ 900000000) :
    Calls Try.prog 22 #[.pointer (some ⟨m, 0, none⟩), .int .i64 x] w fun e' w' => e' = .returned (.int .i64 (s.eraseZ a fs x)) ∧ ChipW w' m gx gb Af nf cf a b c d e fs (s.eraseS a b c fs x) ∧ Tch (chB m gx gb) w w' := by
  cases ho : s.on
  · have e1 : s.eraseZ a fs x = 9 := by simp [ChS.eraseZ, ho]
    have e2 : s.eraseS a b c fs x = s := by simp [ChS.eraseS, ho]
    rw [e1, e2]
    refine (erase_off m gx gb Af nf cf a b c d e fs x w s hC ho).mono ?_
    rintro e' w' ⟨rfl, rfl⟩
    exact ⟨rfl, hC, Tch.refl _⟩
  cases ht : inB a x
  · have e1 : s.eraseZ a fs x = 2 := by simp [ChS.eraseZ, ho, ht]
    have e2 : s.eraseS a b c fs x = s := by simp [ChS.eraseS, ht]
    rw [e1, e2]
    refine (erase_arg m gx gb Af nf cf a b c d e fs x w s hC ho (Lib.hid ht)).mono ?_
    rintro e' w' ⟨rfl, rfl⟩
    exact ⟨rfl, hC, Tch.refl _⟩
  obtain ⟨k, hx, hk⟩ := in_nat ht
  subst hx
  obtain ⟨SZ, RW, hrw, hsz, hfit, z1, z2⟩ := blk_ok hC hk
  have hS : (b * (c + 16)).toNat = SZ := by omega
  have hk' : ((k : Int)).toNat = k := Int.toNat_natCast k
  unfold ChS.eraseZ ChS.eraseS
  rw [ho, ht, hS, hk']
  cases hf : failedB a fs s (k : Int)
  · cases hc : s.cutB
    · have := erase_ok m gx gb Af nf cf a b c d e fs k SZ RW n w s hC hs.bnd (by omega) (by omega) ho hk (Lib.hid hc) hf (Lib.hid hrw) hsz hfit z1 z2
      simpa using this
    · have := erase_cut m gx gb Af nf cf a b c d e fs k SZ RW n w s hC hs.bnd (by omega) (by omega) ho hk (Lib.hid hc) hf hs.fill (Lib.hid hrw) hsz hfit z1 z2
      simpa using this
  · cases hc : s.cutB
    · have := erase_fail m gx gb Af nf cf a b c d e fs k n w s hC hs.bnd (by omega) ho hk (Lib.hid hc) hf
      simpa using this
    · have := erase_cutfail m gx gb Af nf cf a b c d e fs k n w s hC hs.bnd (by omega) ho hk (Lib.hid hc) hf
      simpa using this
theorem arm_all (m gx gb : Nat) (Af : Option Addr) (nf cf : Nat) (a b c d e : Int) (fs : List Flt) (xo xb : Int) (xf : Nat) (n : Int) (w : World) (s : ChS) (hC : ChipW w m gx gb Af nf cf a b c d e fs s) (hs : Fine s n) (hn : n ≤ 900000000) :
    Calls Try.prog 24 #[.pointer (some ⟨m, 0, none⟩), .agg #[.int .i64 xo, .int .i64 xb, .int .u8 (xf : Nat)]] w fun e' w' => e' = .returned (.int .i64 (s.armC xo xb)) ∧ ChipW w' m gx gb Af nf cf a b c d e fs (s.arm xo xb xf) ∧ Tch (chB m gx gb) w w' := by
  cases ho : s.on
  · have e1 : s.armC xo xb = 9 := by simp [ChS.armC, ho]
    have e2 : s.arm xo xb xf = s := by simp [ChS.arm, ho]
    rw [e1, e2]
    refine (arm_off m gx gb Af nf cf a b c d e fs xo xb xf w s hC ho).mono ?_
    rintro e' w' ⟨rfl, hb⟩
    exact ⟨rfl, hC.below hb, Tch.of_below hb⟩
  by_cases hx : 1 ≤ xo ∧ xo ≤ 1073741824 ∧ 0 ≤ xb ∧ xb ≤ 1073741824
  · obtain ⟨x1, x2, x3, x4⟩ := hx
    have ha : armOkB xo xb = true := by unfold armOkB; simp; omega
    have e1 : s.armC xo xb = 0 := by simp [ChS.armC, ho, ha]
    have e2 : s.arm xo xb xf = { s with armed := true, turn := s.ops + xo, cop := xo, cby := xb, fill := xf } := by simp [ChS.arm, ho, ha]
    rw [e1, e2]
    exact arm_yes m gx gb Af nf cf a b c d e fs xo xb xf n w s hC hs.bnd (by omega) ho x1 x2 x3 x4
  · have ha : armOkB xo xb = false := by
      cases h : armOkB xo xb
      · rfl
      · exfalso
        apply hx
        unfold armOkB at h
        simp at h
        omega
    have e1 : s.armC xo xb = 2 := by simp [ChS.armC, ho, ha]
    have e2 : s.arm xo xb xf = s := by simp [ChS.arm, ha]
    rw [e1, e2]
    refine (arm_arg m gx gb Af nf cf a b c d e fs xo xb xf w s hC ho (by omega)).mono ?_
    rintro e' w' ⟨rfl, hb⟩
    exact ⟨rfl, hC.below hb, Tch.of_below hb⟩
def ChS.readZ (s : ChS) (a b x y : Int) : Int := if s.on then (if thereB a b x y then (if s.cutB then 9 else 0) else 2) else 9
def ChS.readS (s : ChS) (a b x y : Int) : ChS := if s.on && thereB a b x y then s.tick else s
def ChS.readB (s : ChS) (a b c x y : Int) : List Nat := if s.on && (thereB a b x y && !s.cutB) then s.pageOf (x * b + y).toNat (c + 16).toNat else []
/-- The laws' own bytes, whatever number is asked for. -/
def cntL (z : Int) : Nat := (min (max z 0) 200).toNat
end Go.Proofs.Ytplniojeaodjiaa
namespace Go.Proofs.Ytplniojeaodjiaa
open Go.ChangeShapes Go.WideShapes Go.ChangeAt Go.RowKit
attribute [local go_sem ↓] Go.wp_at_zero Go.wp_at_succ
set_option linter.unusedSimpArgs false
set_option linter.unusedVariables false

set_option maxRecDepth 100000 in
set_option maxHeartbeats 4000000 in
theorem rpMay_any (a b c d e : Int) (fs : List Flt) (A : Option Addr) (c0 : Nat) (w : World) (h : SlF w w.heap.size A fs) :
    Calls Try.prog 37 #[.agg #[.int .i64 a, .int .i64 b, .int .i64 c, .int .i64 d, .int .i64 e], .slice A fs.length c0] w fun e' w' => e' = .returned (.bool (planMay a b c d e fs)) ∧ Below w.heap.size w w' := by
  cases hm : mayB a b c d e
  · have hr : planMay a b c d e fs = false := planMay_no hm
    rw [hr]
    have Hm := Lib.hid hm
    clear hm hr
    go_enter Try.func37, Try.ntmps37
    go_wp2_with (go_at_call 15; refine (rmay_any _ _ _ _ _ _).mono ?_; rw [Hm.out]; rintro e' w1 ⟨rfl, hb1⟩)
    go_ret
    exact ⟨rfl, below1 hb1⟩
  by_cases hl : 8 < fs.length
  · have hr : planMay a b c d e fs = false := planMay_long hl
    rw [hr]
    have Hm := Lib.hid hm
    clear hm hr
    have g1 : (8 : Int) < (fs.length : Int) := by omega
    go_enter Try.func37, Try.ntmps37
    go_wp2_with (go_at_call 15; refine (rmay_any _ _ _ _ _ _).mono ?_; rw [Hm.out]; rintro e' w1 ⟨rfl, hb1⟩)
    go_ret
    exact ⟨rfl, below1 hb1⟩
  have hr : planMay a b c d e fs = preB a fs fs.length := planMay_pre hm (by omega)
  rw [hr]
  have Hm := Lib.hid hm
  clear hm hr
  have g1 : ¬ (8 : Int) < (fs.length : Int) := by omega
  have h0 := h.next ((Below.refl _ _).alloc (Nat.le_refl _) (.cells #[.int .i64 a, .int .i64 b, .int .i64 c, .int .i64 d, .int .i64 e] 23))
  have hG0 : Blk (w.alloc (.cells #[.int .i64 a, .int .i64 b, .int .i64 c, .int .i64 d, .int .i64 e] 23)) w.heap.size 23 #[.int .i64 a, .int .i64 b, .int .i64 c, .int .i64 d, .int .i64 e] := Blk.new_ w _ _
  go_enter Try.func37, Try.ntmps37
  go_wp2_with (go_at_call 15; refine (rmay_any _ _ _ _ _ _).mono ?_; rw [Hm.out]; rintro e' w1 ⟨rfl, hb1⟩; have H1 := h0.next hb1; have HG := hG0.below hb1 (by simp); have HB := below1 hb1; have hz1 : w.heap.size < w1.heap.size := (by { have := hb1.size; simp at this; omega }); clear hb1 h0 hG0)
  go_loopw [5, 6, 7] (fun i _ _ wr => ∃ k : Nat, k ≤ fs.length ∧ i = .int .i64 k ∧ Hid (preB a fs k = true) ∧ Below w1.heap.size w1 wr) (fun i _ _ _ => fs.length - (intOf i).toNat)
  case atStart => exact ⟨0, Nat.zero_le _, rfl, Lib.hid rfl, Below.refl _ _⟩
  case round =>
    obtain ⟨k, hk, rfl, H0, hBr⟩ := hrel
    have HBr := btr HB HB.size hBr
    by_cases hlt : k < fs.length
    · obtain ⟨b1, o1, rfl, l1, q1⟩ := (H1.below hBr).at_ (by omega)
      obtain ⟨x1, x2, x3⟩ := q1 k fs[k] (by simp [hlt])
      obtain ⟨f, hf⟩ : ∃ f, fs[k] = f := ⟨_, rfl⟩
      rw [hf] at x1 x2 x3
      have hsz := hBr.size
      have hg := HG.below hBr hz1
      have y0 := hg.cell_ 0
      simp at y0
      have l1' : b1 < wr.heap.size := by omega
      have l2' : w.heap.size < wr.heap.size := by omega
      have hs := preB_succ (a := a) hlt hf H0.out
      have HF := Lib.hid hf
      have HS := Lib.hid hs
      clear q1 hf hs hg
      have i0 : (0 : Int) ≤ (k : Int) := by omega
      have i2 : (k : Int) < (fs.length : Int) := by omega
      rcases (by cases hq : (decide (f.blk < 0) : Bool) <;> simp : (decide (f.blk < 0) : Bool) = true ∨ (decide (f.blk < 0) : Bool) = false) with t1 | t1
      · have hm : mayF a f = false := by unfold mayF; rw [t1]; rfl
        have hn : preB a fs (k + 1) = false := by rw [HS.out, hm]; rfl
        have HR := Lib.hid (preB_stop a fs hn fs.length (by omega))
        clear hm hn
        go_wp2
        go_ret
        exact ⟨ret_bool HR.out.symm, HBr.alloc (by omega) _⟩
      · rcases (by cases hq : (decide (a ≤ f.blk) : Bool) <;> simp : (decide (a ≤ f.blk) : Bool) = true ∨ (decide (a ≤ f.blk) : Bool) = false) with t2 | t2
        · have hm : mayF a f = false := by unfold mayF; rw [t1, t2]; rfl
          have hn : preB a fs (k + 1) = false := by rw [HS.out, hm]; rfl
          have HR := Lib.hid (preB_stop a fs hn fs.length (by omega))
          clear hm hn
          go_wp2
          go_ret
          exact ⟨ret_bool HR.out.symm, HBr.alloc (by omega) _⟩
        · rcases (by cases hq : (decide (f.aft < 0) : Bool) <;> simp : (decide (f.aft < 0) : Bool) = true ∨ (decide (f.aft < 0) : Bool) = false) with t3 | t3
          · have hm : mayF a f = false := by unfold mayF; rw [t1, t2, t3]; rfl
            have hn : preB a fs (k + 1) = false := by rw [HS.out, hm]; rfl
            have HR := Lib.hid (preB_stop a fs hn fs.length (by omega))
            clear hm hn
            go_wp2
            go_ret
            exact ⟨ret_bool HR.out.symm, HBr.alloc (by omega) _⟩
          · rcases (by cases hq : (decide (1073741824 < f.aft) : Bool) <;> simp : (decide (1073741824 < f.aft) : Bool) = true ∨ (decide (1073741824 < f.aft) : Bool) = false) with t4 | t4
            · have hm : mayF a f = false := by unfold mayF; rw [t1, t2, t3, t4]; rfl
              have hn : preB a fs (k + 1) = false := by rw [HS.out, hm]; rfl
              have HR := Lib.hid (preB_stop a fs hn fs.length (by omega))
              clear hm hn
              go_wp2
              go_ret
              exact ⟨ret_bool HR.out.symm, HBr.alloc (by omega) _⟩
            · rcases (by cases hq : (f.fac : Bool) <;> simp : f.fac = true ∨ f.fac = false) with t5 | t5
              · rcases (by cases hq : (f.aft == 0 : Bool) <;> simp : (f.aft == 0) = true ∨ (f.aft == 0) = false) with t6 | t6
                · have t7 : (f.aft != 0) = false := by rw [bne, t6]; rfl
                  have hm : mayF a f = true := by unfold mayF; rw [t1, t2, t3, t4, t5, t6]; rfl
                  obtain ⟨wp, rfl⟩ : ∃ wp : World, wp = wr := ⟨_, rfl⟩
                  have hs2 := HS.out.trans (by rw [hm, Bool.true_and] : _ = !namesB (fs.take k) f.blk)
                  have HS2 := Lib.hid hs2
                  clear hm hs2
                  have hBw : Below w.heap.size w (wp.alloc (.cells #[.int .i64 f.blk, .bool true, .int .i64 f.aft] 61)) := HBr.alloc (by omega) _
                  have hBw1 : Below w1.heap.size w1 (wp.alloc (.cells #[.int .i64 f.blk, .bool true, .int .i64 f.aft] 61)) := hBr.alloc (by omega) _
                  go_wp2
                  obtain ⟨wo, hwo⟩ : ∃ wo : World, wo = wp.alloc (.cells #[.int .i64 f.blk, .bool true, .int .i64 f.aft] 61) := ⟨_, rfl⟩
                  have hz2 : wp.heap.size < wo.heap.size := by rw [hwo]; simp
                  have z0 : wo.cell? ⟨wp.heap.size, 0, none⟩ = some (.int .i64 f.blk) := by rw [hwo]; simp
                  rw [← hwo] at hBw hBw1 ⊢
                  clear hwo
                  go_loopw [7] (fun j wq => ∃ m : Nat, m ≤ k ∧ j = .int .i64 m ∧ Hid ((fs.take m).any (fun g => g.blk == f.blk) = false) ∧ Below wo.heap.size wo wq) (fun j _ => k - (intOf j).toNat)
                  case atStart => exact ⟨0, Nat.zero_le _, rfl, Lib.hid (by simp), Below.refl _ _⟩
                  case round =>
                    obtain ⟨m, hmk, rfl, N0, hBq⟩ := hrel
                    have hBq' := btr hBw hBw.size hBq
                    have hBq1 := btr hBw1 hBw1.size hBq
                    by_cases hmlt : m < k
                    · have hml : m < fs.length := by omega
                      obtain ⟨b2, o2, hA2, l2, q2⟩ := (H1.below hBq1).at_ (by omega)
                      cases hA2
                      obtain ⟨v1, v2, v3⟩ := q2 m fs[m] (by simp [hml])
                      obtain ⟨g, hg⟩ : ∃ g, fs[m] = g := ⟨_, rfl⟩
                      rw [hg] at v1 v2 v3
                      have HG2 := Lib.hid hg
                      have u0 := (hBq.cell (p := ⟨wp.heap.size, 0, none⟩) hz2).trans z0
                      have j0 : (0 : Int) ≤ (m : Int) := by omega
                      have j1 : (m : Int) < (fs.length : Int) := by omega
                      clear q2 hg
                      rcases (by cases hq : (g.blk == f.blk : Bool) <;> simp : (g.blk == f.blk) = true ∨ (g.blk == f.blk) = false) with s1 | s1
                      · have hn : preB a fs (k + 1) = false := by
                          rw [HS2.out, namesB, List.any_eq_true.2 ⟨g, by rw [← HG2.out]; exact List.mem_take_iff_getElem.2 ⟨m, by omega, rfl⟩, s1⟩]
                          rfl
                        have HR := Lib.hid (preB_stop a fs hn fs.length (by omega))
                        clear hn
                        go_wp2
                        go_quiet (fail)
                        go_wp2
                        go_ret
                        exact ⟨ret_bool HR.out.symm, below_dn hBq' _⟩
                      · have hr := (any_take (p := fun g => g.blk == f.blk) hml).trans (by rw [N0.out, HG2.out]; simp only [s1, Bool.false_or] : _ = false)
                        have HR := Lib.hid hr
                        clear hr
                        go_wp2
                        go_quiet (fail)
                        go_wp2
                        go_roundw
                        case rel => exact ⟨m + 1, by omega, by go_num, HR, below_dn hBq _⟩
                        case measure => simp [intOf]; omega
                    · have hmk' : m = k := by omega
                      subst hmk'
                      have hn : preB a fs (m + 1) = true := by rw [HS2.out, namesB, N0.out]; rfl
                      have HP := Lib.hid hn
                      clear hn
                      go_wp2
                      go_roundw
                      case rel => exact ⟨m + 1, by omega, by go_num, HP, hBq1⟩
                      case measure => simp [intOf]; omega
                · have t7 : (f.aft != 0) = true := by rw [bne, t6]; rfl
                  have hm : mayF a f = false := by unfold mayF; rw [t1, t2, t3, t4, t5, t6]; rfl
                  have hn : preB a fs (k + 1) = false := by rw [HS.out, hm]; rfl
                  have HR := Lib.hid (preB_stop a fs hn fs.length (by omega))
                  clear hm hn
                  go_wp2
                  go_ret
                  exact ⟨ret_bool HR.out.symm, HBr.alloc (by omega) _⟩
              · have hm : mayF a f = true := by unfold mayF; rw [t1, t2, t3, t4, t5]; rfl
                obtain ⟨wp, rfl⟩ : ∃ wp : World, wp = wr := ⟨_, rfl⟩
                have hs2 := HS.out.trans (by rw [hm, Bool.true_and] : _ = !namesB (fs.take k) f.blk)
                have HS2 := Lib.hid hs2
                clear hm hs2
                have hBw : Below w.heap.size w (wp.alloc (.cells #[.int .i64 f.blk, .bool false, .int .i64 f.aft] 61)) := HBr.alloc (by omega) _
                have hBw1 : Below w1.heap.size w1 (wp.alloc (.cells #[.int .i64 f.blk, .bool false, .int .i64 f.aft] 61)) := hBr.alloc (by omega) _
                go_wp2
                obtain ⟨wo, hwo⟩ : ∃ wo : World, wo = wp.alloc (.cells #[.int .i64 f.blk, .bool false, .int .i64 f.aft] 61) := ⟨_, rfl⟩
                have hz2 : wp.heap.size < wo.heap.size := by rw [hwo]; simp
                have z0 : wo.cell? ⟨wp.heap.size, 0, none⟩ = some (.int .i64 f.blk) := by rw [hwo]; simp
                rw [← hwo] at hBw hBw1 ⊢
                clear hwo
                go_loopw [7] (fun j wq => ∃ m : Nat, m ≤ k ∧ j = .int .i64 m ∧ Hid ((fs.take m).any (fun g => g.blk == f.blk) = false) ∧ Below wo.heap.size wo wq) (fun j _ => k - (intOf j).toNat)
                case atStart => exact ⟨0, Nat.zero_le _, rfl, Lib.hid (by simp), Below.refl _ _⟩
                case round =>
                  obtain ⟨m, hmk, rfl, N0, hBq⟩ := hrel
                  have hBq' := btr hBw hBw.size hBq
                  have hBq1 := btr hBw1 hBw1.size hBq
                  by_cases hmlt : m < k
                  · have hml : m < fs.length := by omega
                    obtain ⟨b2, o2, hA2, l2, q2⟩ := (H1.below hBq1).at_ (by omega)
                    cases hA2
                    obtain ⟨v1, v2, v3⟩ := q2 m fs[m] (by simp [hml])
                    obtain ⟨g, hg⟩ : ∃ g, fs[m] = g := ⟨_, rfl⟩
                    rw [hg] at v1 v2 v3
                    have HG2 := Lib.hid hg
                    have u0 := (hBq.cell (p := ⟨wp.heap.size, 0, none⟩) hz2).trans z0
                    have j0 : (0 : Int) ≤ (m : Int) := by omega
                    have j1 : (m : Int) < (fs.length : Int) := by omega
                    clear q2 hg
                    rcases (by cases hq : (g.blk == f.blk : Bool) <;> simp : (g.blk == f.blk) = true ∨ (g.blk == f.blk) = false) with s1 | s1
                    · have hn : preB a fs (k + 1) = false := by
                        rw [HS2.out, namesB, List.any_eq_true.2 ⟨g, by rw [← HG2.out]; exact List.mem_take_iff_getElem.2 ⟨m, by omega, rfl⟩, s1⟩]
                        rfl
                      have HR := Lib.hid (preB_stop a fs hn fs.length (by omega))
                      clear hn
                      go_wp2
                      go_quiet (fail)
                      go_wp2
                      go_ret
                      exact ⟨ret_bool HR.out.symm, below_dn hBq' _⟩
                    · have hr := (any_take (p := fun g => g.blk == f.blk) hml).trans (by rw [N0.out, HG2.out]; simp only [s1, Bool.false_or] : _ = false)
                      have HR := Lib.hid hr
                      clear hr
                      go_wp2
                      go_quiet (fail)
                      go_wp2
                      go_roundw
                      case rel => exact ⟨m + 1, by omega, by go_num, HR, below_dn hBq _⟩
                      case measure => simp [intOf]; omega
                  · have hmk' : m = k := by omega
                    subst hmk'
                    have hn : preB a fs (m + 1) = true := by rw [HS2.out, namesB, N0.out]; rfl
                    have HP := Lib.hid hn
                    clear hn
                    go_wp2
                    go_roundw
                    case rel => exact ⟨m + 1, by omega, by go_num, HP, hBq1⟩
                    case measure => simp [intOf]; omega
    · go_wp2
      have hr : preB a fs fs.length = true := by
        have hkk : k = fs.length := by omega
        rw [← hkk]
        exact H0.out
      go_ret
      exact ⟨ret_bool hr.symm, HBr⟩

end Go.Proofs.Ytplniojeaodjiaa
namespace Go.Proofs.Ytplniojeaodjiaa
open Go.ChangeShapes Go.WideShapes Go.ChangeAt Go.RowKit

theorem rThere_any (a b c d e x y : Int) (w : World) :
    Calls Try.prog 67 #[.agg #[.int .i64 a, .int .i64 b, .int .i64 c, .int .i64 d, .int .i64 e], .agg #[.int .i64 x, .int .i64 y]] w fun e' w' => e' = .returned (.bool (mayB a b c d e && thereB a b x y)) ∧ Below w.heap.size w w' := by
  cases hm : mayB a b c d e
  · have Hm := Lib.hid hm
    clear hm
    go_enter Try.func67, Try.ntmps67
    go_wp2_with (go_at_call 15; refine (rmay_any _ _ _ _ _ _).mono ?_; rw [Hm.out]; rintro e' w1 ⟨rfl, hb1⟩)
    go_ret
    exact ⟨by simp, below2 hb1⟩
  · obtain ⟨k1, k2, k3, k4, k7, k8, k5, k6, _⟩ := may_bd hm
    have Hm := Lib.hid hm
    clear hm
    go_enter Try.func67, Try.ntmps67
    go_wp2_with (first
      | (go_at_call 15; refine (rmay_any _ _ _ _ _ _).mono ?_; rw [Hm.out]; rintro e' w1 ⟨rfl, hb1⟩; obtain ⟨hc1, hf1⟩ := bcell hb1; have hz1 : w.heap.size + 1 < w1.heap.size := by { have := hb1.size; simp at this; omega }; have hz0 : w.heap.size < w1.heap.size := by { omega })
      | (go_at_call 51; refine (rin_any _ _ _ _).mono ?_; rintro e w' ⟨rfl, rfl⟩))
    all_goals
      go_ret
      exact ⟨by simp [thereB, *], below2 hb1⟩

theorem rNumber_any (a b c d e x y : Int) (w : World) :
    Calls Try.prog 69 #[.agg #[.int .i64 a, .int .i64 b, .int .i64 c, .int .i64 d, .int .i64 e], .agg #[.int .i64 x, .int .i64 y]] w fun e' w' => e' = .returned (.int .i64 (ifMay a b c d e (numberI a b x y))) ∧ Below w.heap.size w w' := by
  cases hm : mayB a b c d e
  · rw [ifMay_no _ hm]
    have Hm := Lib.hid hm
    clear hm
    go_enter Try.func69, Try.ntmps69
    go_wp2_with (go_at_call 15; refine (rmay_any _ _ _ _ _ _).mono ?_; rw [Hm.out]; rintro e' w1 ⟨rfl, hb1⟩)
    go_ret
    exact ⟨rfl, below2 hb1⟩
  · rw [ifMay_yes _ hm]
    obtain ⟨k1, k2, k3, k4, k7, k8, k5, k6, _⟩ := may_bd hm
    have Hm := Lib.hid hm
    clear hm
    cases ht : thereB a b x y
    · have hn : numberI a b x y = -1 := by simp [numberI, ht]
      rw [hn]
      clear hn
      have Ht := Lib.hid ht
      clear ht
      go_enter Try.func69, Try.ntmps69
      go_wp2_with (first
        | (go_at_call 15; refine (rmay_any _ _ _ _ _ _).mono ?_; rw [Hm.out]; rintro e' w1 ⟨rfl, hb1⟩; obtain ⟨hc1, hf1⟩ := bcell hb1)
        | (go_at_call 67; refine (rThere_any _ _ _ _ _ _ _ _).mono ?_; rw [Hm.out, Ht.out, Bool.true_and]; rintro e' w2 ⟨rfl, hb2⟩))
      go_ret
      exact ⟨rfl, (below2 hb1).trans (hb2.mono (by have := hb1.size; simp at this; omega))⟩
    · have hn : numberI a b x y = x * b + y := by simp [numberI, ht]
      rw [hn]
      clear hn
      obtain ⟨t1, t2, t3, t4⟩ := there_bd ht
      obtain ⟨p1, p2⟩ := mul_bd (x := x) (y := b) (lo := 0) (hi := 19) (by omega) (by omega) k3 k4 (by omega) (by omega)
      have Ht := Lib.hid ht
      clear ht
      go_enter Try.func69, Try.ntmps69
      go_wp2_with (first
        | (go_at_call 15; refine (rmay_any _ _ _ _ _ _).mono ?_; rw [Hm.out]; rintro e' w1 ⟨rfl, hb1⟩; obtain ⟨hc1, hf1⟩ := bcell hb1; have hz1 : w.heap.size + 1 < w1.heap.size := by { have := hb1.size; simp at this; omega }; have hz0 : w.heap.size < w1.heap.size := by { omega })
        | (go_at_call 67; refine (rThere_any _ _ _ _ _ _ _ _).mono ?_; rw [Hm.out, Ht.out, Bool.true_and]; rintro e' w2 ⟨rfl, hb2⟩; obtain ⟨hc2, hf2⟩ := bcell hb2))
      go_ret
      exact ⟨rfl, (below2 hb1).trans (hb2.mono (by have := hb1.size; simp at this; omega))⟩

end Go.Proofs.Ytplniojeaodjiaa
namespace Go.Proofs.Ytplniojeaodjiaa
open Go.ChangeShapes Go.WideShapes Go.ChangeAt Go.RowKit
set_option linter.unusedSimpArgs false
set_option linter.unusedVariables false

def ChS.wait (s : ChS) : Int := if s.armed then s.turn - s.ops else 0
/-- The five blocks that it turns. -/
def rfB (m gB gN gW gD : Nat) (g : Nat) : Prop := g = m ∨ g = gB ∨ g = gN ∨ g = gW ∨ g = gD
structure PgAt (w : World) (L : Nat) (S : Nat → Prop) (RW : Nat) (X : List Nat) (N : Nat) (p : Nat × Nat) : Prop where
  lt : p.1 < w.heap.size
  ge : L ≤ p.1
  ns : ¬ S p.1
  cap : RW ≤ p.2
  cap2 : p.2 ≤ maxLen
  cell : ∀ j, j < RW → w.cell? ⟨p.1, j, none⟩ = some (byteV (X.getD (N * RW + j) 0))
theorem PgAt.keep {w w' : World} {L RW N : Nat} {S : Nat → Prop} {X : List Nat} {p : Nat × Nat} (h : PgAt w L S RW X N p) (hz : w.heap.size ≤ w'.heap.size) (hk : w'.heap[p.1]? = w.heap[p.1]?) : PgAt w' L S RW X N p :=
  ⟨by have := h.lt; omega, h.ge, h.ns, h.cap, h.cap2, fun j hj => by rw [← h.cell j hj]; exact World.cell?_of_block (w := w) hk⟩
def pgV (RW : Nat) (p : Nat × Nat) : Value := .slice (some ⟨p.1, 0, none⟩) RW p.2
/-- Faults that lie in a block of its own. -/
def FltR (w : World) (L : Nat) (S : Nat → Prop) (A : Option Addr) (fs : List Flt) : Prop :=
  fs = [] ∨ ∃ g off, A = some ⟨g, off, none⟩ ∧ g < w.heap.size ∧ L ≤ g ∧ ¬ S g ∧ ∀ k f, fs[k]? = some f →
    w.cell? ⟨g, off + k * 3, none⟩ = some (.int .i64 f.blk) ∧ w.cell? ⟨g, off + k * 3 + 1, none⟩ = some (.bool f.fac) ∧ w.cell? ⟨g, off + k * 3 + 2, none⟩ = some (.int .i64 f.aft)
theorem FltR.sl {w : World} {L : Nat} {S : Nat → Prop} {A : Option Addr} {fs : List Flt} (h : FltR w L S A fs) : SlF w w.heap.size A fs := by
  rcases h with h | ⟨g, off, e, hlt, _, _, hc⟩
  · exact Or.inl h
  · exact Or.inr ⟨g, off, e, hlt, hc⟩
theorem FltR.keep {w w' : World} {L : Nat} {S : Nat → Prop} {A : Option Addr} {fs : List Flt} (h : FltR w L S A fs) (hz : w.heap.size ≤ w'.heap.size) (hk : ∀ g, g < w.heap.size → L ≤ g → ¬ S g → w'.heap[g]? = w.heap[g]?) : FltR w' L S A fs := by
  rcases h with h | ⟨g, off, e, hlt, h1, h2, hc⟩
  · exact Or.inl h
  · have hq : ∀ o, w'.cell? ⟨g, o, none⟩ = w.cell? ⟨g, o, none⟩ := fun o => World.cell?_of_block (w := w) (hk g hlt h1 h2)
    exact Or.inr ⟨g, off, e, by omega, h1, h2, fun k f hf => by rw [hq, hq, hq]; exact hc k f hf⟩
/-- A column of the blocks' numbers. -/
def kcol (K : List Int) (j NB : Nat) : List Value := (List.range NB).map (fun i => Value.int .i64 (K.getD (3 * i + j) 0))
theorem kcol_len (K : List Int) (j NB : Nat) : (kcol K j NB).length = NB := by simp [kcol]
theorem kcol_at (K : List Int) (j NB k : Nat) (h : k < NB) : (kcol K j NB)[k]? = some (.int .i64 (K.getD (3 * k + j) 0)) := by
  unfold kcol
  rw [List.getElem?_map, List.getElem?_range h]
  rfl
structure RefW (w : World) (m gB gN gW gD L : Nat) (Af : Option Addr) (nf cf : Nat) (a b c d e : Int) (fs : List Flt) (s : ChS) : Prop where
  blk : ∃ (cB NP NB RW : Nat), (RW : Int) = c + 16 ∧ (NP : Int) = a * b ∧ (NB : Int) = a ∧ NP ≤ cB ∧ Blk w m 42 #[.int .i64 a, .int .i64 b, .int .i64 c, .int .i64 d, .int .i64 e, .slice Af nf cf, .slice (some ⟨gB, 0, none⟩) NP cB, .slice (some ⟨gN, 0, none⟩) NB NB, .slice (some ⟨gW, 0, none⟩) NB NB, .slice (some ⟨gD, 0, none⟩) NB NB, .int .i64 (s).ops, .int .i64 (s).cuts, .bool (!(s).on), .int .i64 (s).wait, .int .i64 (s).cop, .int .i64 (s).cby, .int .u8 ((s).fill : Nat)] ∧
    ∃ P : List (Nat × Nat), P.length = NP ∧ RowT w gB 48 (P.map (pgV RW)) ∧ ∀ i p, P[i]? = some p → PgAt w L (rfB m gB gN gW gD) RW s.X i p
  rN : RowT w gN 3 (kcol s.K 0 a.toNat)
  rW : RowT w gW 3 (kcol s.K 1 a.toNat)
  rD : RowT w gD 3 (kcol s.K 2 a.toNat)
  flt : FltR w L (rfB m gB gN gW gD) Af fs
  ne : (m ≠ gB ∧ m ≠ gN ∧ m ≠ gW ∧ m ≠ gD) ∧ (gB ≠ gN ∧ gB ≠ gW ∧ gB ≠ gD) ∧ (gN ≠ gW ∧ gN ≠ gD) ∧ gW ≠ gD
  ge : ∀ g, rfB m gB gN gW gD g → L ≤ g
  lenX : s.X.length = (a * b * (c + 16)).toNat
  lenK : s.K.length = 3 * a.toNat
  nf : fs.length = nf
  may : planMay a b c d e fs = true
theorem RefW.keep {w w' : World} {m gB gN gW gD L : Nat} {Af : Option Addr} {nf cf : Nat} {a b c d e : Int} {fs : List Flt} {s : ChS} (h : RefW w m gB gN gW gD L Af nf cf a b c d e fs s) (hz : w.heap.size ≤ w'.heap.size) (hk : ∀ g, g < w.heap.size → L ≤ g → w'.heap[g]? = w.heap[g]?) : RefW w' m gB gN gW gD L Af nf cf a b c d e fs s := by
  obtain ⟨⟨cB, NP, NB, RW, hRW, hNP, hNB, hcB, hB, P, hPl, rB, hP⟩, rN, rW, rD, rF, hne, hge, l1, l2, l3, l4⟩ := h
  exact ⟨⟨cB, NP, NB, RW, hRW, hNP, hNB, hcB, (hk _ hB.lt (hge _ (Or.inl rfl))).trans hB, P, hPl, rB.keep (hk _ rB.lt (hge _ (Or.inr (Or.inl rfl)))), fun i p hi => (hP i p hi).keep hz (hk _ (hP i p hi).lt (hP i p hi).ge)⟩,
    rN.keep (hk _ rN.lt (hge _ (Or.inr (Or.inr (Or.inl rfl))))), rW.keep (hk _ rW.lt (hge _ (Or.inr (Or.inr (Or.inr (Or.inl rfl)))))), rD.keep (hk _ rD.lt (hge _ (Or.inr (Or.inr (Or.inr (Or.inr rfl)))))), rF.keep hz (fun g hg h1 _ => hk g hg h1), hne, hge, l1, l2, l3, l4⟩
theorem RefW.lt {w : World} {m gB gN gW gD L : Nat} {Af : Option Addr} {nf cf : Nat} {a b c d e : Int} {fs : List Flt} {s : ChS} (h : RefW w m gB gN gW gD L Af nf cf a b c d e fs s) : m < w.heap.size := by
  obtain ⟨⟨cB, NP, NB, RW, hRW, hNP, hNB, hcB, hB, P, hPl, rB, hP⟩, rN, rW, rD, rF, hne, hge, l1, l2, l3, l4⟩ := h
  exact hB.lt
theorem RefW.below {w w' : World} {m gB gN gW gD L : Nat} {Af : Option Addr} {nf cf : Nat} {a b c d e : Int} {fs : List Flt} {s : ChS} (h : RefW w m gB gN gW gD L Af nf cf a b c d e fs s) (hb : Below w.heap.size w w') : RefW w' m gB gN gW gD L Af nf cf a b c d e fs s := h.keep hb.size (fun g hg _ => hb.block g hg)
theorem RefW.like {w w' : World} {m gB gN gW gD L : Nat} {Af : Option Addr} {nf cf : Nat} {a b c d e : Int} {fs : List Flt} {s : ChS} (h : RefW w m gB gN gW gD L Af nf cf a b c d e fs s) (e1 : w'.heap = w.heap := by rfl) : RefW w' m gB gN gW gD L Af nf cf a b c d e fs s := h.keep (by rw [e1]; exact Nat.le_refl _) (fun g _ _ => by rw [e1])
theorem RefW.drew {w : World} {m gB gN gW gD L : Nat} {Af : Option Addr} {nf cf : Nat} {a b c d e : Int} {fs : List Flt} {s : ChS} (h : RefW w m gB gN gW gD L Af nf cf a b c d e fs s) : RefW w.drew m gB gN gW gD L Af nf cf a b c d e fs s := h.like
theorem RefW.likeB {w w1 w' : World} {m gB gN gW gD L : Nat} {Af : Option Addr} {nf cf : Nat} {a b c d e : Int} {fs : List Flt} {s : ChS} (h : RefW w m gB gN gW gD L Af nf cf a b c d e fs s) (hb : Below w1.heap.size w1 w') (he : w1.heap = w.heap := by rfl) : RefW w' m gB gN gW gD L Af nf cf a b c d e fs s := (h.like he).below hb
/-- What others turn lies ahead of it. -/
theorem RefW.far {w w' : World} {m gB gN gW gD L : Nat} {Af : Option Addr} {nf cf : Nat} {a b c d e : Int} {fs : List Flt} {s : ChS} (h : RefW w m gB gN gW gD L Af nf cf a b c d e fs s) {S : Nat → Prop} (hT : Tch S w w') (hs : ∀ g, S g → g < L) : RefW w' m gB gN gW gD L Af nf cf a b c d e fs s :=
  h.keep hT.size (fun g hg h1 => hT.far g hg (fun h2 => by have := hs g h2; omega))
/-- Only its own block is turned. -/
theorem RefW.put {w w' : World} {m gB gN gW gD L : Nat} {Af : Option Addr} {nf cf : Nat} {a b c d e : Int} {fs : List Flt} {s : ChS} (hC : RefW w m gB gN gW gD L Af nf cf a b c d e fs s) (s' : ChS) {cB NP NB : Nat} (hNP : (NP : Int) = a * b) (hNB : (NB : Int) = a) (hcB : NP ≤ cB) (hB : Blk w' m 42 #[.int .i64 a, .int .i64 b, .int .i64 c, .int .i64 d, .int .i64 e, .slice Af nf cf, .slice (some ⟨gB, 0, none⟩) NP cB, .slice (some ⟨gN, 0, none⟩) NB NB, .slice (some ⟨gW, 0, none⟩) NB NB, .slice (some ⟨gD, 0, none⟩) NB NB, .int .i64 (s').ops, .int .i64 (s').cuts, .bool (!(s').on), .int .i64 (s').wait, .int .i64 (s').cop, .int .i64 (s').cby, .int .u8 ((s').fill : Nat)]) (hT : Tch (fun g => g = m) w w') (h1 : s'.X = s.X) (h2 : s'.K = s.K) : RefW w' m gB gN gW gD L Af nf cf a b c d e fs s' := by
  obtain ⟨⟨cB0, NP0, NB0, RW, hRW, hNP0, hNB0, hcB0, hB0, P, hPl, rB, hP⟩, rN, rW, rD, rF, hne, hge, l1, l2, l3, l4⟩ := hC
  obtain ⟨n1, n2, n3, n4⟩ := hne.1
  have e : NP = NP0 := by omega
  subst e
  refine ⟨⟨cB, NP, NB, RW, hRW, hNP, hNB, hcB, hB, P, hPl, rB.keep (hT.far _ rB.lt (fun e => n1 e.symm)), fun i p hi => ?_⟩, ?_, ?_, ?_, rF.keep hT.size (fun g hg _ hs => hT.far g hg (fun e => hs (Or.inl e))), hne, hge, by rw [h1]; exact l1, by rw [h2]; exact l2, l3, l4⟩
  · rw [h1]
    exact (hP i p hi).keep hT.size (hT.far _ (hP i p hi).lt (fun e => (hP i p hi).ns (Or.inl e)))
  · rw [h2]
    exact rN.keep (hT.far _ rN.lt (fun e => n2 e.symm))
  · rw [h2]
    exact rW.keep (hT.far _ rW.lt (fun e => n3 e.symm))
  · rw [h2]
    exact rD.keep (hT.far _ rD.lt (fun e => n4 e.symm))
end Go.Proofs.Ytplniojeaodjiaa
namespace Go.Proofs.Ytplniojeaodjiaa
open Go.ChangeShapes Go.WideShapes Go.ChangeAt Go.RowKit
set_option linter.unusedSimpArgs false
set_option linter.unusedVariables false

/-- How long it waits: an operation at least. -/
structure ChS.Wt (s : ChS) : Prop where
  w0 : s.armed = true → s.ops + 1 ≤ s.turn
  w1 : s.armed = true → s.turn ≤ 4000000000
theorem fill_any (x Q : Nat) (w : World) (hQ : Q ≤ 1000) : Calls Try.prog 38 #[.int .u8 (x : Int), .int .i64 (Q : Int)] w fun e' w' => (∃ g, e' = .returned (.slice (some ⟨g, 0, none⟩) Q Q) ∧ RowT w' g 5 ((List.replicate Q x).map byteV) ∧ w.heap.size ≤ g) ∧ Below w.heap.size w w' := by
  have i0 : (0 : Int) ≤ (Q : Int) := by omega
  have i1 : (Q : Int) ≤ 1000 := by omega
  go_enter Try.func38, Try.ntmps38
  go_wp2_with (at_make; obtain ⟨ti0, hi, hz0, hz1, hz2⟩ := info_parts infoByte; refine wpList_make_full _ rfl _ _ 48 rfl w.heap.size 5 ti0 (.int .u8 0) 1 Try.underlying48 hi hz0 hz1 _ _ _ _ Q rfl rfl rfl rfl (by rw [hz2]; omega) (by unfold maxLen; omega) (Nat.le_refl _) ?_; intro w1 hown1 hgrow1; clear hi hz0 hz1 hz2)
  have hB1 : Below w.heap.size w w1 := (Below.refl _ _).grown hgrow1 (Nat.le_refl _) (fun j hj => by cases hj)
  rw [show (madeCells (Value.int .u8 0).cells (Q * 1)).toList = List.replicate (Q * 1) (Value.int .u8 0) from toList_madeCells_one _ _, Nat.mul_one] at hown1
  have hR1 : RowT w1 w.heap.size 5 ((List.replicate 0 x).map byteV ++ List.replicate (Q - 0) (byteV 0)) := by
    show RowT w1 w.heap.size 5 (List.replicate (Q - 0) (byteV 0))
    rw [Nat.sub_zero]
    exact own_rowS hown1
  clear hown1 hgrow1
  go_loopw [6] (fun s6 wr => ∃ k : Nat, k ≤ Q ∧ s6 = .int .i64 (k : Int) ∧ RowT wr w.heap.size 5 ((List.replicate k x).map byteV ++ List.replicate (Q - k) (byteV 0)) ∧ Below w.heap.size w wr) (fun s6 _ => Q - (intOf s6).toNat)
  case atStart => exact ⟨0, Nat.zero_le _, rfl, hR1, hB1⟩
  case round =>
    clear hR1 hB1
    obtain ⟨k, hk, rfl, hR, hB⟩ := hrel
    by_cases hlt : k < Q
    · have c0 : wr.cell? ⟨w.heap.size, k, none⟩ = some (byteV 0) := hR.cell_ (by
        rw [List.getElem?_append_right (by simp), List.getElem?_replicate]
        simp
        omega)
      have f0 := hR.free k
      have k0 : (0 : Int) ≤ (k : Int) := by omega
      have k1 : (k : Int) < (Q : Int) := by omega
      have k2 : (k : Int) ≤ 1000 := by omega
      have hs := hR.set_ (i := k) (by simp; omega) (byteV x)
      have e : (((List.replicate k x).map byteV ++ List.replicate (Q - k) (byteV 0)).set k (byteV x)) = ((List.replicate (k + 1) x).map byteV ++ List.replicate (Q - (k + 1)) (byteV 0)) := by
        have h1 : Q - k = (Q - (k + 1)) + 1 := by omega
        rw [h1, List.replicate_succ, List.set_append_right _ _ (by simp)]
        simp only [List.length_map, List.length_replicate, Nat.sub_self, List.set_cons_zero]
        rw [show List.replicate (k + 1) x = List.replicate k x ++ [x] from List.replicate_succ', List.map_append, List.append_assoc]
        rfl
      rw [e] at hs
      have HS := Lib.hid hs
      clear hs e
      unfold byteV at c0
      go_wp2_with fail
      go_roundw
      case rel => exact ⟨k + 1, by omega, by go_num, HS.out, hB.setCell (Nat.le_refl _) _⟩
      case measure => simp [intOf]; omega
    · have hkQ : k = Q := by omega
      subst hkQ
      rw [Nat.sub_self, List.replicate_zero, List.append_nil] at hR
      have HR := Lib.hid hR
      clear hR
      go_wp2_with fail
      go_ret
      exact ⟨⟨_, rfl, HR.out, Nat.le_refl _⟩, hB⟩
set_option maxHeartbeats 4000000 in
theorem turn_any (m gB gN gW gD L : Nat) (Af : Option Addr) (nf cf : Nat) (a b c d e : Int) (fs : List Flt) (n : Int) (w : World) (s : ChS) (hC : RefW w m gB gN gW gD L Af nf cf a b c d e fs s) (hb : s.Bnd n) (hn : n ≤ 1000000000) (hw : s.Wt) : Calls Try.prog 68 #[.pointer (some ⟨m, 0, none⟩)] w fun e' w' => e' = .returned (.bool s.cutB) ∧ RefW w' m gB gN gW gD L Af nf cf a b c d e fs s.tick ∧ Tch (fun g => g = m) w w' := by
  obtain ⟨o0, o1, c0, c1, -, -⟩ := hb
  obtain ⟨w0, w1⟩ := hw
  obtain ⟨HC⟩ : Nonempty (Hid (RefW w m gB gN gW gD L Af nf cf a b c d e fs s)) := ⟨Lib.hid hC⟩
  obtain ⟨⟨cB, NP, NB, RW, hRW, hNP, hNB, hcB, hB, P, hPl, rB, hP⟩, rN, rW, rD, rF, hne, hge, l1, l2, l3, l4⟩ := hC
  have H1 := Lib.hid hNP
  have H2 := Lib.hid hNB
  have H3 := Lib.hid hcB
  clear hNP hNB hcB hRW rB hP rN rW rD rF hne hge l1 l2 l3 l4 hPl P
  rcases (by cases s.armed <;> simp : s.armed = false ∨ s.armed = true) with ha | ha
  · have hcut : s.cutB = false := by simp [ChS.cutB, ha]
    have htick : s.tick = { s with ops := s.ops + 1 } := by simp [ChS.tick, hcut]
    have hz : s.wait = 0 := by simp [ChS.wait, ha]
    have hz2 : ({ s with ops := s.ops + 1 } : ChS).wait = 0 := by simp [ChS.wait, ha]
    rw [hcut, htick]
    rw [hz] at hB
    have HZ := Lib.hid hz2
    have y10 := hB.cell_ 10; have y11 := hB.cell_ 11; have y12 := hB.cell_ 12; have y13 := hB.cell_ 13; simp at y10 y11 y12 y13
    have fm := hB.free
    clear ha hcut htick w0 w1 hz hz2
    have Q1 := hB.set_ 10 (.int .i64 (s.ops + 1))
    simp at Q1
    have k1_10 := Q1.cell_ 10; have k1_11 := Q1.cell_ 11; have k1_12 := Q1.cell_ 12; have k1_13 := Q1.cell_ 13; simp at k1_10 k1_11 k1_12 k1_13
    have fq1 := Q1.free
    have HQ := Lib.hid Q1
    clear hB Q1
    go_enter Try.func68, Try.ntmps68
    go_wp2_with fail
    go_ret
    refine ⟨rfl, HC.out.put { s with ops := s.ops + 1 } H1.out H2.out H3.out ?_ ?_ rfl rfl, ?_⟩
    · rw [HZ.out]; exact HQ.out
    · exact (Tch.setm w m 10 (.int .i64 (s.ops + 1))).like
    · exact (Tch.setm w m 10 (.int .i64 (s.ops + 1))).like
  have w0 := w0 ha
  have w1 := w1 ha
  by_cases ht : s.ops + 1 = s.turn
  · have hcut : s.cutB = true := by simp [ChS.cutB, ha, ht]
    have htick : s.tick = { s with ops := s.ops + 1, armed := false, on := false, cuts := s.cuts + 1 } := by simp [ChS.tick, hcut]
    have hz : s.wait = 1 := by simp [ChS.wait, ha]; omega
    rw [hcut, htick]
    rw [hz] at hB
    have y10 := hB.cell_ 10; have y11 := hB.cell_ 11; have y12 := hB.cell_ 12; have y13 := hB.cell_ 13; simp at y10 y11 y12 y13
    have fm := hB.free
    clear ha hcut htick w0 w1 hz ht
    have Q1 := hB.set_ 10 (.int .i64 (s.ops + 1))
    simp at Q1
    have k1_10 := Q1.cell_ 10; have k1_11 := Q1.cell_ 11; have k1_12 := Q1.cell_ 12; have k1_13 := Q1.cell_ 13; simp at k1_10 k1_11 k1_12 k1_13
    have fq1 := Q1.free
    have Q2 := Q1.set_ 13 (.int .i64 0)
    simp at Q2
    have k2_10 := Q2.cell_ 10; have k2_11 := Q2.cell_ 11; have k2_12 := Q2.cell_ 12; have k2_13 := Q2.cell_ 13; simp at k2_10 k2_11 k2_12 k2_13
    have fq2 := Q2.free
    have Q3 := Q2.set_ 12 (.bool true)
    simp at Q3
    have k3_10 := Q3.cell_ 10; have k3_11 := Q3.cell_ 11; have k3_12 := Q3.cell_ 12; have k3_13 := Q3.cell_ 13; simp at k3_10 k3_11 k3_12 k3_13
    have fq3 := Q3.free
    have Q4 := Q3.set_ 11 (.int .i64 (s.cuts + 1))
    simp at Q4
    have k4_10 := Q4.cell_ 10; have k4_11 := Q4.cell_ 11; have k4_12 := Q4.cell_ 12; have k4_13 := Q4.cell_ 13; simp at k4_10 k4_11 k4_12 k4_13
    have fq4 := Q4.free
    have HQ := Lib.hid Q4
    clear hB Q1 Q2 Q3 Q4
    go_enter Try.func68, Try.ntmps68
    go_wp2_with fail
    go_ret
    refine ⟨rfl, HC.out.put { s with ops := s.ops + 1, armed := false, on := false, cuts := s.cuts + 1 } H1.out H2.out H3.out ?_ ?_ rfl rfl, ?_⟩
    · exact HQ.out
    · exact ((((Tch.setm w m 10 (.int .i64 (s.ops + 1))).trans (Tch.setm _ m 13 (.int .i64 0))).trans (Tch.setm _ m 12 (.bool true))).trans (Tch.setm _ m 11 (.int .i64 (s.cuts + 1)))).like
    · exact ((((Tch.setm w m 10 (.int .i64 (s.ops + 1))).trans (Tch.setm _ m 13 (.int .i64 0))).trans (Tch.setm _ m 12 (.bool true))).trans (Tch.setm _ m 11 (.int .i64 (s.cuts + 1)))).like
  · have hcut : s.cutB = false := by simp [ChS.cutB, ha, ht]
    have htick : s.tick = { s with ops := s.ops + 1 } := by simp [ChS.tick, hcut]
    obtain ⟨z, hz⟩ : ∃ z, s.wait = z := ⟨_, rfl⟩
    have hze : z = s.turn - s.ops := by rw [← hz]; simp [ChS.wait, ha]
    have hz2 : ({ s with ops := s.ops + 1 } : ChS).wait = z - 1 := by simp [ChS.wait, ha]; omega
    have z1 : 2 ≤ z := by omega
    have z2 : z ≤ 4000000000 := by omega
    have z3 : 0 < z - 1 := by omega
    have z4 : ¬ z = 0 := by omega
    rw [hcut, htick]
    rw [hz] at hB
    have HZ := Lib.hid hz2
    have y10 := hB.cell_ 10; have y11 := hB.cell_ 11; have y12 := hB.cell_ 12; have y13 := hB.cell_ 13; simp at y10 y11 y12 y13
    have fm := hB.free
    clear ha hcut htick w0 w1 hz hz2 ht hze
    have Q1 := hB.set_ 10 (.int .i64 (s.ops + 1))
    simp at Q1
    have k1_10 := Q1.cell_ 10; have k1_11 := Q1.cell_ 11; have k1_12 := Q1.cell_ 12; have k1_13 := Q1.cell_ 13; simp at k1_10 k1_11 k1_12 k1_13
    have fq1 := Q1.free
    have Q2 := Q1.set_ 13 (.int .i64 (z - 1))
    simp at Q2
    have k2_10 := Q2.cell_ 10; have k2_11 := Q2.cell_ 11; have k2_12 := Q2.cell_ 12; have k2_13 := Q2.cell_ 13; simp at k2_10 k2_11 k2_12 k2_13
    have fq2 := Q2.free
    have HQ := Lib.hid Q2
    clear hB Q1 Q2
    go_enter Try.func68, Try.ntmps68
    go_wp2_with fail
    go_ret
    refine ⟨rfl, HC.out.put { s with ops := s.ops + 1 } H1.out H2.out H3.out ?_ ?_ rfl rfl, ?_⟩
    · rw [HZ.out]; exact HQ.out
    · exact ((Tch.setm w m 10 (.int .i64 (s.ops + 1))).trans (Tch.setm _ m 13 (.int .i64 (z - 1)))).like
    · exact ((Tch.setm w m 10 (.int .i64 (s.ops + 1))).trans (Tch.setm _ m 13 (.int .i64 (z - 1)))).like
theorem rboot_any (m gB gN gW gD L : Nat) (Af : Option Addr) (nf cf : Nat) (a b c d e : Int) (fs : List Flt) (w : World) (s : ChS) (hC : RefW w m gB gN gW gD L Af nf cf a b c d e fs s) : Calls Try.prog 48 #[.pointer (some ⟨m, 0, none⟩)] w fun e' w' => e' = .returned (.int .i64 s.bootC) ∧ RefW w' m gB gN gW gD L Af nf cf a b c d e fs s.boot ∧ Tch (fun g => g = m) w w' := by
  obtain ⟨HC⟩ : Nonempty (Hid (RefW w m gB gN gW gD L Af nf cf a b c d e fs s)) := ⟨Lib.hid hC⟩
  obtain ⟨⟨cB, NP, NB, RW, hRW, hNP, hNB, hcB, hB, P, hPl, rB, hP⟩, rN, rW, rD, rF, hne, hge, l1, l2, l3, l4⟩ := hC
  have H1 := Lib.hid hNP
  have H2 := Lib.hid hNB
  have H3 := Lib.hid hcB
  clear hNP hNB hcB hRW rB hP rN rW rD rF hne hge l1 l2 l3 l4 hPl P
  rcases (by cases s.on <;> simp : s.on = true ∨ s.on = false) with ho | ho
  · rw [show s.bootC = 7 by simp [ChS.bootC, ho], show s.boot = s by simp [ChS.boot, ho]]
    rw [show (!s.on) = false by rw [ho]; rfl] at hB
    have y12 := hB.cell_ 12; simp at y12
    clear hB ho
    go_enter Try.func48, Try.ntmps48
    go_wp2_with fail
    go_ret
    exact ⟨rfl, HC.out, Tch.refl _⟩
  · rw [show s.bootC = 0 by simp [ChS.bootC, ho], show s.boot = { s with on := true, armed := false } by simp [ChS.boot, ho]]
    rw [show (!s.on) = true by rw [ho]; rfl] at hB
    have y12 := hB.cell_ 12; simp at y12
    have fm := hB.free
    clear ho
    have Q1 := hB.set_ 12 (.bool false)
    simp at Q1
    have k1_10 := Q1.cell_ 10; have k1_11 := Q1.cell_ 11; have k1_12 := Q1.cell_ 12; have k1_13 := Q1.cell_ 13; simp at k1_10 k1_11 k1_12 k1_13
    have fq1 := Q1.free
    have Q2 := Q1.set_ 13 (.int .i64 0)
    simp at Q2
    have k2_10 := Q2.cell_ 10; have k2_11 := Q2.cell_ 11; have k2_12 := Q2.cell_ 12; have k2_13 := Q2.cell_ 13; simp at k2_10 k2_11 k2_12 k2_13
    have fq2 := Q2.free
    have HQ := Lib.hid Q2
    clear hB Q1 Q2
    go_enter Try.func48, Try.ntmps48
    go_wp2_with fail
    go_ret
    refine ⟨rfl, HC.out.put { s with on := true, armed := false } H1.out H2.out H3.out ?_ ?_ rfl rfl, ?_⟩
    · exact HQ.out
    · exact ((Tch.setm w m 12 (.bool false)).trans (Tch.setm _ m 13 (.int .i64 0))).like
    · exact ((Tch.setm w m 12 (.bool false)).trans (Tch.setm _ m 13 (.int .i64 0))).like
end Go.Proofs.Ytplniojeaodjiaa
namespace Go.Proofs.Ytplniojeaodjiaa
open Go.ChangeShapes Go.WideShapes Go.ChangeAt Go.RowKit
set_option linter.unusedSimpArgs false
set_option linter.unusedVariables false

theorem rarm_off (m gB gN gW gD L : Nat) (Af : Option Addr) (nf cf : Nat) (a b c d e : Int) (fs : List Flt) (xo xb : Int) (xf : Nat) (w : World) (s : ChS) (hC : RefW w m gB gN gW gD L Af nf cf a b c d e fs s) (ho : s.on = false) : Calls Try.prog 47 #[.pointer (some ⟨m, 0, none⟩), .agg #[.int .i64 xo, .int .i64 xb, .int .u8 (xf : Nat)]] w fun e' w' => e' = .returned (.int .i64 9) ∧ Below w.heap.size w w' := by
  obtain ⟨HC⟩ : Nonempty (Hid (RefW w m gB gN gW gD L Af nf cf a b c d e fs s)) := ⟨Lib.hid hC⟩
  obtain ⟨⟨cB, NP, NB, RW, hRW, hNP, hNB, hcB, hB, P, hPl, rB, hP⟩, rN, rW, rD, rF, hne, hge, l1, l2, l3, l4⟩ := hC
  have H1 := Lib.hid hNP
  have H2 := Lib.hid hNB
  have H3 := Lib.hid hcB
  clear hNP hNB hcB hRW rB hP rN rW rD rF hne hge l1 l2 l3 l4 hPl P
  rw [show (!s.on) = true by rw [ho]; rfl] at hB
  have hB := hB.alloc_ (.cells #[.int .i64 xo, .int .i64 xb, .int .u8 (xf : Nat)] 35)
  have y12 := hB.cell_ 12; simp at y12
  clear hB ho
  go_enter Try.func47, Try.ntmps47
  go_wp2_with fail
  go_ret
  exact ⟨rfl, (Below.refl _ _).alloc (Nat.le_refl _) _⟩
theorem rarm_arg (m gB gN gW gD L : Nat) (Af : Option Addr) (nf cf : Nat) (a b c d e : Int) (fs : List Flt) (xo xb : Int) (xf : Nat) (w : World) (s : ChS) (hC : RefW w m gB gN gW gD L Af nf cf a b c d e fs s) (ho : s.on = true) (hx : xo < 1 ∨ (1 ≤ xo ∧ 1073741824 < xo) ∨ (1 ≤ xo ∧ xo ≤ 1073741824 ∧ xb < 0) ∨ (1 ≤ xo ∧ xo ≤ 1073741824 ∧ 0 ≤ xb ∧ 1073741824 < xb)) : Calls Try.prog 47 #[.pointer (some ⟨m, 0, none⟩), .agg #[.int .i64 xo, .int .i64 xb, .int .u8 (xf : Nat)]] w fun e' w' => e' = .returned (.int .i64 2) ∧ Below w.heap.size w w' := by
  obtain ⟨HC⟩ : Nonempty (Hid (RefW w m gB gN gW gD L Af nf cf a b c d e fs s)) := ⟨Lib.hid hC⟩
  obtain ⟨⟨cB, NP, NB, RW, hRW, hNP, hNB, hcB, hB, P, hPl, rB, hP⟩, rN, rW, rD, rF, hne, hge, l1, l2, l3, l4⟩ := hC
  have H1 := Lib.hid hNP
  have H2 := Lib.hid hNB
  have H3 := Lib.hid hcB
  clear hNP hNB hcB hRW rB hP rN rW rD rF hne hge l1 l2 l3 l4 hPl P
  rw [show (!s.on) = false by rw [ho]; rfl] at hB
  have hB := hB.alloc_ (.cells #[.int .i64 xo, .int .i64 xb, .int .u8 (xf : Nat)] 35)
  have y12 := hB.cell_ 12; simp at y12
  clear hB ho
  rcases hx with h1 | ⟨h1, h2⟩ | ⟨h1, h2, h3⟩ | ⟨h1, h2, h3, h4⟩
  all_goals
    go_enter Try.func47, Try.ntmps47
    go_wp2_with fail
    go_ret
    exact ⟨rfl, (Below.refl _ _).alloc (Nat.le_refl _) _⟩
set_option maxHeartbeats 4000000 in
theorem rarm_yes (m gB gN gW gD L : Nat) (Af : Option Addr) (nf cf : Nat) (a b c d e : Int) (fs : List Flt) (xo xb : Int) (xf : Nat) (w : World) (s : ChS) (hC : RefW w m gB gN gW gD L Af nf cf a b c d e fs s) (ho : s.on = true) (x1 : 1 ≤ xo) (x2 : xo ≤ 1073741824) (x3 : 0 ≤ xb) (x4 : xb ≤ 1073741824) : Calls Try.prog 47 #[.pointer (some ⟨m, 0, none⟩), .agg #[.int .i64 xo, .int .i64 xb, .int .u8 (xf : Nat)]] w fun e' w' => e' = .returned (.int .i64 0) ∧ RefW w' m gB gN gW gD L Af nf cf a b c d e fs { s with armed := true, turn := s.ops + xo, cop := xo, cby := xb, fill := xf } ∧ Tch (fun g => g = m) w w' := by
  have HB0 : Below w.heap.size w (w.alloc (.cells #[.int .i64 xo, .int .i64 xb, .int .u8 (xf : Nat)] 35)) := (Below.refl _ _).alloc (Nat.le_refl _) _
  have hmw := hC.lt
  have hC := hC.below HB0
  have G1 : Blk (w.alloc (.cells #[.int .i64 xo, .int .i64 xb, .int .u8 (xf : Nat)] 35)) w.heap.size 35 #[.int .i64 xo, .int .i64 xb, .int .u8 (xf : Nat)] := Blk.new_ _ _ _
  obtain ⟨w0, hw0⟩ : ∃ W : World, W = w.alloc (.cells #[.int .i64 xo, .int .i64 xb, .int .u8 (xf : Nat)] 35) := ⟨_, rfl⟩
  obtain ⟨HC⟩ : Nonempty (Hid (RefW w0 m gB gN gW gD L Af nf cf a b c d e fs s)) := ⟨Lib.hid (by rw [hw0]; exact hC)⟩
  obtain ⟨⟨cB, NP, NB, RW, hRW, hNP, hNB, hcB, hB, P, hPl, rB, hP⟩, rN, rW, rD, rF, hne, hge, l1, l2, l3, l4⟩ := hC
  have H1 := Lib.hid hNP
  have H2 := Lib.hid hNB
  have H3 := Lib.hid hcB
  clear hNP hNB hcB hRW rB hP rN rW rD rF hne hge l1 l2 l3 l4 hPl P
  have hz : ({ s with armed := true, turn := s.ops + xo, cop := xo, cby := xb, fill := xf } : ChS).wait = xo := by simp [ChS.wait]; omega
  have hoo : (!({ s with armed := true, turn := s.ops + xo, cop := xo, cby := xb, fill := xf } : ChS).on) = false := by rw [show ({ s with armed := true, turn := s.ops + xo, cop := xo, cby := xb, fill := xf } : ChS).on = s.on from rfl, ho]; rfl
  rw [show (!s.on) = false by rw [ho]; rfl] at hB
  have HZ := Lib.hid hz
  have HO := Lib.hid hoo
  rw [← hw0] at hB G1 HB0
  have y12 := hB.cell_ 12; have y13 := hB.cell_ 13; have y14 := hB.cell_ 14; have y15 := hB.cell_ 15; have y16 := hB.cell_ 16; simp at y12 y13 y14 y15 y16
  have fm := hB.free
  have hne : w.heap.size ≠ m := by omega
  have g0 := G1.cell_ 0; have g1 := G1.cell_ 1; have g2 := G1.cell_ 2; simp at g0 g1 g2
  have Q1 := ((hB.set_ 14 (.int .i64 xo)).set_ 15 (.int .i64 xb)).set_ 16 (.int .u8 (xf : Nat))
  simp at Q1
  have fq1 := Q1.free
  have P1 := ((G1.far (p := ⟨m, 14, none⟩) hne (.int .i64 xo)).far (p := ⟨m, 15, none⟩) hne (.int .i64 xb)).far (p := ⟨m, 16, none⟩) hne (.int .u8 (xf : Nat))
  have p0 := P1.cell_ 0; have p1 := P1.cell_ 1; have p2 := P1.cell_ 2; simp at p0 p1 p2
  have P2 := P1.far (p := ⟨m, 13, none⟩) hne (.int .i64 xo)
  have r0 := P2.cell_ 0; have r1 := P2.cell_ 1; have r2 := P2.cell_ 2; simp at r0 r1 r2
  have Q3 := Q1.set_ 13 (.int .i64 xo)
  simp at Q3
  have HQ := Lib.hid Q3
  have d1 : decide (xo < 1) = false := decide_eq_false (by omega)
  have d2 : decide (1073741824 < xo) = false := decide_eq_false (by omega)
  have d3 : decide (xb < 0) = false := decide_eq_false (by omega)
  have d4 : decide (1073741824 < xb) = false := decide_eq_false (by omega)
  clear hB ho Q1 Q3 P1 P2 G1 hC x1 x2 x3 x4 hne hmw hz hoo
  go_enter Try.func47, Try.ntmps47
  go_upto_region 1 with fail
  rw [← hw0]
  clear hw0
  go_upto_region 5 with fail
  refine wp_region_noPanic ?_
  refine wp_region_held_drew (S := (fun w' => w'.cell? ⟨w.heap.size, 0, none⟩ = some (.int .i64 xo) ∧ w'.cell? ⟨w.heap.size, 1, none⟩ = some (.int .i64 xb) ∧ w'.cell? ⟨w.heap.size, 2, none⟩ = some (.int .u8 (xf : Nat)))) (by kernel_rfl) ?_ (fun hHeld => ?_)
  · (first | exact ⟨p0, p1, p2⟩ | exact ⟨r0, r1, r2⟩ | exact ⟨g0, g1, g2⟩ | assumption)
  refine wpAnyH_take (i := 0) (oi := ⟨some 27, .move (.tmp 0), 29, "ref.go:150", #[], none⟩) (v := ?_) rfl (by kernel_rfl) (by kernel_rfl) (by kernel_rfl) (fun _ _ _ h => h) (Or.inl ⟨by rfl, ?_⟩) (by assumption) ?_
  rotate_left
  · (intro wS hSw; (try dsimp only at hSw); go_simp; (try with_reducible rfl))
  try simp only [Act.put, pz1, pz2, pz3]
  refine wpAnyH_take (i := 1) (oi := ⟨some 28, .move (.tmp 0), 29, "ref.go:150", #[{ on := 7, ground := Ground.gcOnly Departure.lateStores }], none⟩) (v := ?_) rfl (by kernel_rfl) (by kernel_rfl) (by kernel_rfl) (fun _ _ _ h => h) (Or.inl ⟨by rfl, ?_⟩) (by assumption) ?_
  rotate_left
  · (intro wS hSw; (try dsimp only at hSw); go_simp; (try with_reducible rfl))
  try simp only [Act.put, pz1, pz2, pz3]
  refine wpAnyH_take (i := 2) (oi := ⟨some 29, .load 35 (.tmp 3), 35, "ref.go:150", #[], none⟩) (v := ?_) rfl (by kernel_rfl) (by kernel_rfl) (by kernel_rfl) (fun _ _ _ h => h) (Or.inl ⟨by rfl, ?_⟩) (by assumption) ?_
  rotate_left
  · (intro wS hSw; (try dsimp only at hSw); go_simp; (try with_reducible rfl))
  try simp only [Act.put, pz1, pz2, pz3]
  refine wpAnyH_take (i := 3) (oi := ⟨some 30, .fieldAddr 35 (.tmp 3) 0, 0, "ref.go:150", #[{ on := 7, ground := Ground.gcOnly Departure.lateStores }], none⟩) (v := ?_) rfl (by kernel_rfl) (by kernel_rfl) (by kernel_rfl) (fun _ _ _ h => h) (Or.inl ⟨by rfl, ?_⟩) (by assumption) ?_
  rotate_left
  · (intro wS hSw; (try dsimp only at hSw); go_simp; (try with_reducible rfl))
  try simp only [Act.put, pz1, pz2, pz3]
  refine wpAnyH_take (i := 4) (oi := ⟨some 31, .load 3 (.tmp 30), 3, "ref.go:150", #[⟨3, .data⟩, { on := 7, ground := Ground.gcOnly Departure.lateStores }], none⟩) (v := ?_) rfl (by kernel_rfl) (by kernel_rfl) (by kernel_rfl) (fun _ _ _ h => h) (Or.inl ⟨by rfl, ?_⟩) (by assumption) ?_
  rotate_left
  · (intro wS hSw; (try dsimp only at hSw); go_simp; (try with_reducible rfl))
  try simp only [Act.put, pz1, pz2, pz3]
  refine wpAnyH_take (i := 5) (oi := ⟨some 32, .nilCheck (.tmp 27), 0, "ref.go:150", #[⟨0, .data⟩, ⟨0, .phase⟩, { on := 1, ground := Ground.textOnly Departure.lateStores }, ⟨2, .phase⟩, { on := 3, ground := Ground.textOnly Departure.lateStores }, { on := 4, ground := Ground.textOnly Departure.lateStores }], none⟩) (v := ?_) rfl (by kernel_rfl) (by kernel_rfl) (by kernel_rfl) (fun _ _ _ h => h) (Or.inl ⟨by rfl, ?_⟩) (by assumption) ?_
  rotate_left
  · (intro wS hSw; (try dsimp only at hSw); go_simp; (try with_reducible rfl))
  try simp only [Act.put, pz1, pz2, pz3]
  refine wpAnyH_take (i := 6) (oi := ⟨some 33, .fieldAddr 42 (.tmp 32) 10, 0, "ref.go:150", #[⟨5, .data⟩, ⟨0, .phase⟩, { on := 1, ground := Ground.textOnly Departure.lateStores }, ⟨2, .phase⟩, { on := 3, ground := Ground.textOnly Departure.lateStores }, { on := 4, ground := Ground.textOnly Departure.lateStores }], none⟩) (v := ?_) rfl (by kernel_rfl) (by kernel_rfl) (by kernel_rfl) (fun _ _ _ h => h) (Or.inl ⟨by rfl, ?_⟩) (by assumption) ?_
  rotate_left
  · (intro wS hSw; (try dsimp only at hSw); go_simp; (try with_reducible rfl))
  try simp only [Act.put, pz1, pz2, pz3]
  refine wpAnyH_ready (rs := [7]) (by kernel_rfl) (by simp) ?_
  refine AllReadyH.cons (o := ⟨none, .store 35 (.tmp 33) (.tmp 29), 0, "ref.go:150", #[⟨6, .data⟩, ⟨2, .data⟩, ⟨0, .phase⟩, { on := 1, ground := Ground.textOnly Departure.lateStores }, ⟨2, .phase⟩, { on := 3, ground := Ground.textOnly Departure.lateStores }, { on := 4, ground := Ground.textOnly Departure.lateStores }], none⟩) rfl (fun K hK => ?_) AllReadyH.nil
  go_simp
  skip
  refine hK.out _ _ ?_ (fun hNew => ?_)
  · (first | exact ⟨p0, p1, p2⟩ | exact ⟨r0, r1, r2⟩ | exact ⟨g0, g1, g2⟩ | assumption)
  clear hK K hHeld
  have hHeld := hNew
  clear hNew
  try simp only [Act.put, pz1, pz2, pz3]
  refine wpAnyH_take (i := 8) (oi := ⟨some 34, .nilCheck (.tmp 28), 0, "ref.go:150", #[⟨1, .data⟩, ⟨0, .phase⟩, ⟨1, .phase⟩, ⟨2, .phase⟩, ⟨3, .phase⟩, ⟨4, .phase⟩, ⟨5, .phase⟩, ⟨6, .phase⟩, ⟨7, .phase⟩], none⟩) (v := ?_) rfl (by kernel_rfl) (by kernel_rfl) (by kernel_rfl) (fun _ _ _ h => h) (Or.inl ⟨by rfl, ?_⟩) (by assumption) ?_
  rotate_left
  · (intro wS hSw; (try dsimp only at hSw); go_simp; (try with_reducible rfl))
  try simp only [Act.put, pz1, pz2, pz3]
  refine wpAnyH_take (i := 9) (oi := ⟨some 35, .fieldAddr 42 (.tmp 34) 9, 0, "ref.go:150", #[⟨8, .data⟩, ⟨0, .phase⟩, ⟨1, .phase⟩, ⟨2, .phase⟩, ⟨3, .phase⟩, ⟨4, .phase⟩, ⟨5, .phase⟩, ⟨6, .phase⟩, ⟨7, .phase⟩], none⟩) (v := ?_) rfl (by kernel_rfl) (by kernel_rfl) (by kernel_rfl) (fun _ _ _ h => h) (Or.inl ⟨by rfl, ?_⟩) (by assumption) ?_
  rotate_left
  · (intro wS hSw; (try dsimp only at hSw); go_simp; (try with_reducible rfl))
  try simp only [Act.put, pz1, pz2, pz3]
  refine wpAnyH_ready (rs := [10]) (by kernel_rfl) (by simp) ?_
  refine AllReadyH.cons (o := ⟨none, .store 3 (.tmp 35) (.tmp 31), 0, "ref.go:150", #[⟨9, .data⟩, ⟨4, .data⟩, ⟨7, .chain⟩, ⟨0, .phase⟩, ⟨1, .phase⟩, ⟨2, .phase⟩, ⟨3, .phase⟩, ⟨4, .phase⟩, ⟨5, .phase⟩, ⟨6, .phase⟩, ⟨7, .phase⟩], none⟩) rfl (fun K hK => ?_) AllReadyH.nil
  go_simp
  skip
  refine hK.out _ _ ?_ (fun hNew => ?_)
  · (first | exact ⟨p0, p1, p2⟩ | exact ⟨r0, r1, r2⟩ | exact ⟨g0, g1, g2⟩ | assumption)
  clear hK K hHeld
  have hHeld := hNew
  clear hNew
  try simp only [Act.put, pz1, pz2, pz3]
  refine wpAnyH_done (by kernel_rfl) ?_ _
  refine NoPanic.normal ?_
  go_wp2_with fail
  go_ret
  have HT : Tch (fun g => g = m) w0 _ := (((Tch.setm w0 m 14 (.int .i64 xo)).trans (Tch.setm _ m 15 (.int .i64 xb))).trans (Tch.setm _ m 16 (.int .u8 (xf : Nat)))).trans (Tch.setm _ m 13 (.int .i64 xo))
  have HCC := HC.out.put { s with armed := true, turn := s.ops + xo, cop := xo, cby := xb, fill := xf } H1.out H2.out H3.out (by rw [HZ.out, HO.out]; exact HQ.out) HT rfl rfl
  have HTT := (Tch.of_below HB0).trans HT
  exact ⟨rfl, HCC.like, HTT.like⟩
theorem rthere_any (m gB gN gW gD L : Nat) (Af : Option Addr) (nf cf : Nat) (a b c d e : Int) (fs : List Flt) (B : Int) (w : World) (s : ChS) (hC : RefW w m gB gN gW gD L Af nf cf a b c d e fs s) : Calls Try.prog 49 #[.pointer (some ⟨m, 0, none⟩), .int .i64 B] w fun e' w' => e' = .returned (.bool (inB a B)) ∧ w = w' := by
  obtain ⟨HC⟩ : Nonempty (Hid (RefW w m gB gN gW gD L Af nf cf a b c d e fs s)) := ⟨Lib.hid hC⟩
  obtain ⟨⟨cB, NP, NB, RW, hRW, hNP, hNB, hcB, hB, P, hPl, rB, hP⟩, rN, rW, rD, rF, hne, hge, l1, l2, l3, l4⟩ := hC
  have H1 := Lib.hid hNP
  have H2 := Lib.hid hNB
  have H3 := Lib.hid hcB
  clear hNP hNB hcB hRW rB hP rN rW rD rF hne hge l1 l2 l3 l4 hPl P
  have y0 := hB.cell_ 0; simp at y0
  clear hB
  by_cases h1 : B < 0
  · rw [inB_no (Or.inl h1)]
    have h2 : ¬ 0 ≤ B := by omega
    go_enter Try.func49, Try.ntmps49
    go_wp2_with fail
    go_ret
    exact ⟨rfl, rfl⟩
  · have h2 : 0 ≤ B := by omega
    by_cases h3 : B < a
    · rw [inB_yes h2 h3]
      go_enter Try.func49, Try.ntmps49
      go_wp2_with fail
      go_ret
      exact ⟨rfl, rfl⟩
    · rw [inB_no (Or.inr (by omega))]
      go_enter Try.func49, Try.ntmps49
      go_wp2_with fail
      go_ret
      exact ⟨rfl, rfl⟩
theorem rthere_b (m gB gN gW gD L : Nat) (Af : Option Addr) (nf cf : Nat) (a b c d e : Int) (fs : List Flt) (B : Int) (T : Bool) (w : World) (s : ChS) (hC : RefW w m gB gN gW gD L Af nf cf a b c d e fs s) (ht : Hid (inB a B = T)) : Calls Try.prog 49 #[.pointer (some ⟨m, 0, none⟩), .int .i64 B] w fun e' w' => e' = .returned (.bool T) ∧ w = w' := by
  have := rthere_any m gB gN gW gD L Af nf cf a b c d e fs B w s hC
  rwa [ht.out] at this
theorem rpfails_b (fs : List Flt) (A : Option Addr) (nf c : Nat) (b d : Int) (T : Bool) (w : World) (h : SlF w w.heap.size A fs) (hn : fs.length = nf) (n1 : fs.length ≤ 1000000) (ht : Hid (failsB fs b d = T)) :
    Calls Try.prog 70 #[.slice A nf c, .int .i64 b, .int .i64 d] w fun e w' => e = .returned (.bool T) ∧ Below w.heap.size w w' := by
  have := rFails_any fs A c b d w h n1
  rwa [ht.out, hn] at this
/-- What lies in its cells. -/
structure RefC (w : World) (m gB gN gW gD L : Nat) (Af : Option Addr) (nf cf : Nat) (a b c d e : Int) (fs : List Flt) (s : ChS) (NP NB RW cB : Nat) : Prop where
  y0 : w.cell? ⟨m, 0, none⟩ = some (.int .i64 a)
  y1 : w.cell? ⟨m, 1, none⟩ = some (.int .i64 b)
  y2 : w.cell? ⟨m, 2, none⟩ = some (.int .i64 c)
  y3 : w.cell? ⟨m, 3, none⟩ = some (.int .i64 d)
  y4 : w.cell? ⟨m, 4, none⟩ = some (.int .i64 e)
  y5 : w.cell? ⟨m, 5, none⟩ = some (.slice Af nf cf)
  y6 : w.cell? ⟨m, 6, none⟩ = some (.slice (some ⟨gB, 0, none⟩) NP cB)
  y7 : w.cell? ⟨m, 7, none⟩ = some (.slice (some ⟨gN, 0, none⟩) NB NB)
  y8 : w.cell? ⟨m, 8, none⟩ = some (.slice (some ⟨gW, 0, none⟩) NB NB)
  y9 : w.cell? ⟨m, 9, none⟩ = some (.slice (some ⟨gD, 0, none⟩) NB NB)
  y10 : w.cell? ⟨m, 10, none⟩ = some (.int .i64 s.ops)
  y11 : w.cell? ⟨m, 11, none⟩ = some (.int .i64 s.cuts)
  y12 : w.cell? ⟨m, 12, none⟩ = some (.bool (!s.on))
  y13 : w.cell? ⟨m, 13, none⟩ = some (.int .i64 s.wait)
  y14 : w.cell? ⟨m, 14, none⟩ = some (.int .i64 s.cop)
  y15 : w.cell? ⟨m, 15, none⟩ = some (.int .i64 s.cby)
  y16 : w.cell? ⟨m, 16, none⟩ = some (.int .u8 (s.fill : Nat))
  fm : ∀ i, w.frozen? ⟨m, i, none⟩ = false
  hRW : Hid ((RW : Int) = c + 16)
  hNP : Hid ((NP : Int) = a * b)
  hNB : Hid ((NB : Int) = a)
  hcB : Hid (NP ≤ cB)
  n0 : ∀ k, k < NB → w.cell? ⟨gN, k, none⟩ = some (.int .i64 (s.k (k : Int) 0))
  n1 : ∀ k, k < NB → w.cell? ⟨gW, k, none⟩ = some (.int .i64 (s.k (k : Int) 1))
  n2 : ∀ k, k < NB → w.cell? ⟨gD, k, none⟩ = some (.int .i64 (s.k (k : Int) 2))
theorem RefW.cells {w : World} {m gB gN gW gD L : Nat} {Af : Option Addr} {nf cf : Nat} {a b c d e : Int} {fs : List Flt} {s : ChS} (hC : RefW w m gB gN gW gD L Af nf cf a b c d e fs s) : ∃ NP NB RW cB, RefC w m gB gN gW gD L Af nf cf a b c d e fs s NP NB RW cB := by
  obtain ⟨⟨cB, NP, NB, RW, hRW, hNP, hNB, hcB, hB, P, hPl, rB, hP⟩, rN, rW, rD, rF, hne, hge, l1, l2, l3, l4⟩ := hC
  have hk : ∀ (j k : Nat), s.k (k : Int) j = s.K.getD (3 * k + j) 0 := fun j k => by unfold ChS.k; rw [Int.toNat_natCast]
  refine ⟨NP, NB, RW, cB, hB.cell_ 0, hB.cell_ 1, hB.cell_ 2, hB.cell_ 3, hB.cell_ 4, hB.cell_ 5, hB.cell_ 6, hB.cell_ 7, hB.cell_ 8, hB.cell_ 9, hB.cell_ 10, hB.cell_ 11, hB.cell_ 12, hB.cell_ 13, hB.cell_ 14, hB.cell_ 15, hB.cell_ 16, hB.free, Lib.hid hRW, Lib.hid hNP, Lib.hid hNB, Lib.hid hcB, fun k h => ?_, fun k h => ?_, fun k h => ?_⟩
  · rw [hk]; exact rN.cell_ (kcol_at _ _ _ _ (by omega))
  · rw [hk]; exact rW.cell_ (kcol_at _ _ _ _ (by omega))
  · rw [hk]; exact rD.cell_ (kcol_at _ _ _ _ (by omega))
end Go.Proofs.Ytplniojeaodjiaa
namespace Go.Proofs.Ytplniojeaodjiaa
open Go.ChangeShapes Go.WideShapes Go.ChangeAt Go.RowKit
set_option linter.unusedSimpArgs false
set_option linter.unusedVariables false
theorem rRaw_any (a b c d e : Int) (w : World) :
    Calls Try.prog 39 #[.agg #[.int .i64 a, .int .i64 b, .int .i64 c, .int .i64 d, .int .i64 e]] w fun e' w' => e' = .returned (.int .i64 (ifMay a b c d e (c + 16))) ∧ Below w.heap.size w w' := by
  cases hm : mayB a b c d e
  · rw [ifMay_no _ hm]
    have Hm := Lib.hid hm
    clear hm
    go_enter Try.func39, Try.ntmps39
    go_wp2_with (go_at_call 15; refine (rmay_any _ _ _ _ _ _).mono ?_; rw [Hm.out]; rintro e' w1 ⟨rfl, hb1⟩)
    go_ret
    exact ⟨rfl, below1 hb1⟩
  · rw [ifMay_yes _ hm]
    obtain ⟨k1, k2, k3, k4, k7, k8, k5, k6, _⟩ := may_bd hm
    have Hm := Lib.hid hm
    clear hm
    go_enter Try.func39, Try.ntmps39
    go_wp2_with (go_at_call 15; refine (rmay_any _ _ _ _ _ _).mono ?_; rw [Hm.out]; rintro e' w1 ⟨rfl, hb1⟩; obtain ⟨hc1, hf1⟩ := bcell hb1)
    go_ret
    exact ⟨rfl, below1 hb1⟩

theorem rthr_b (a b c d e x y : Int) (T : Bool) (w : World) (hm : Hid (mayB a b c d e = true)) (ht : Hid (thereB a b x y = T)) :
    Calls Try.prog 67 #[.agg #[.int .i64 a, .int .i64 b, .int .i64 c, .int .i64 d, .int .i64 e], .agg #[.int .i64 x, .int .i64 y]] w fun e' w' => e' = .returned (.bool T) ∧ Below w.heap.size w w' := by
  have q := rThere_any a b c d e x y w
  rwa [hm.out, ht.out, Bool.true_and] at q
theorem rnum_c (a b c d e x y : Int) (n : Nat) (w : World) (hm : Hid (mayB a b c d e = true)) (hn : Hid (numberI a b x y = (n : Int))) :
    Calls Try.prog 69 #[.agg #[.int .i64 a, .int .i64 b, .int .i64 c, .int .i64 d, .int .i64 e], .agg #[.int .i64 x, .int .i64 y]] w fun e' w' => e' = .returned (.int .i64 (n : Int)) ∧ Below w.heap.size w w' := by
  have q := rNumber_any a b c d e x y w
  rwa [ifMay_yes _ hm.out, hn.out] at q
theorem rraw_b (a b c d e : Int) (RW : Nat) (w : World) (hm : Hid (mayB a b c d e = true)) (hr : Hid ((RW : Int) = c + 16)) :
    Calls Try.prog 39 #[.agg #[.int .i64 a, .int .i64 b, .int .i64 c, .int .i64 d, .int .i64 e]] w fun e' w' => e' = .returned (.int .i64 (RW : Int)) ∧ Below w.heap.size w w' := by
  have q := rRaw_any a b c d e w
  rwa [ifMay_yes _ hm.out, ← hr.out] at q
theorem cellOf {w w' : World} (h : Below w.heap.size w w') {p : Addr} {v : Value} (hc : w.cell? p = some v) : w'.cell? p = some v := (h.cell (World.block_lt_of_cell? w p hc)).trans hc
theorem RefC.below {w w' : World} {m gB gN gW gD L : Nat} {Af : Option Addr} {nf cf : Nat} {a b c d e : Int} {fs : List Flt} {s : ChS} {NP NB RW cB : Nat} (h : RefC w m gB gN gW gD L Af nf cf a b c d e fs s NP NB RW cB) (hb : Below w.heap.size w w') : RefC w' m gB gN gW gD L Af nf cf a b c d e fs s NP NB RW cB :=
  ⟨cellOf hb h.y0, cellOf hb h.y1, cellOf hb h.y2, cellOf hb h.y3, cellOf hb h.y4, cellOf hb h.y5, cellOf hb h.y6, cellOf hb h.y7, cellOf hb h.y8, cellOf hb h.y9, cellOf hb h.y10, cellOf hb h.y11, cellOf hb h.y12, cellOf hb h.y13, cellOf hb h.y14, cellOf hb h.y15, cellOf hb h.y16, fun i => (hb.frozen (p := ⟨m, i, none⟩) (show m < w.heap.size from World.block_lt_of_cell? w ⟨m, 0, none⟩ h.y0)).trans (h.fm i), h.hRW, h.hNP, h.hNB, h.hcB, fun k hk => cellOf hb (h.n0 k hk), fun k hk => cellOf hb (h.n1 k hk), fun k hk => cellOf hb (h.n2 k hk)⟩
/-- A page that lies in the row of pages. -/
structure PgR (w : World) (gB N RW : Nat) (p c : Nat) (bs : List Nat) : Prop where
  cN : w.cell? ⟨gB, N, none⟩ = some (.slice (some ⟨p, 0, none⟩) RW c)
  rd : Rd w (some ⟨p, 0, none⟩) RW 1 (bs.map byteV)
  lt : p < w.heap.size
  cap : RW ≤ c
  cap2 : c ≤ maxLen
theorem PgR.below {w w' : World} {gB N RW p c : Nat} {bs : List Nat} (h : PgR w gB N RW p c bs) (hb : Below w.heap.size w w') : PgR w' gB N RW p c bs :=
  ⟨cellOf hb h.cN, h.rd.keep (fun b o e j => by cases e; exact hb.cell h.lt), by have := h.lt; have := hb.size; omega, h.cap, h.cap2⟩
theorem RefW.page {w : World} {m gB gN gW gD L : Nat} {Af : Option Addr} {nf cf : Nat} {a b c d e : Int} {fs : List Flt} {s : ChS} (hC : RefW w m gB gN gW gD L Af nf cf a b c d e fs s) {N RW : Nat} (hr : (RW : Int) = c + 16) (hN : (N : Int) < a * b) (hf : N * RW + RW ≤ s.X.length) : ∃ p cp, PgR w gB N RW p cp (s.pageOf N RW) := by
  obtain ⟨⟨cB, NP, NB, RW', hRW, hNP, hNB, hcB, hB, P, hPl, rB, hP⟩, rN, rW, rD, rF, hne, hge, l1, l2, l3, l4⟩ := hC
  have e : RW' = RW := by omega
  subst e
  have hlt : N < P.length := by omega
  obtain ⟨p, hp⟩ : ∃ p, P[N]? = some p := ⟨P[N], by simp [hlt]⟩
  have hg := hP N p hp
  refine ⟨p.1, p.2, rB.cell_ (by rw [List.getElem?_map, hp]; rfl), ⟨by simp [ChS.pageOf]; omega, Or.inr ⟨p.1, 0, rfl, fun j u hu => ?_⟩⟩, hg.lt, hg.cap, hg.cap2⟩
  rw [List.getElem?_map] at hu
  unfold ChS.pageOf at hu
  rw [List.getElem?_take] at hu
  split at hu
  · next hj =>
    rw [List.getElem?_drop] at hu
    rw [Nat.zero_add, hg.cell j hj, List.getD_eq_getElem?_getD]
    rw [List.getElem?_eq_getElem (by omega)] at hu ⊢
    exact hu
  · cases hu
theorem rpage_ok {w : World} {m gB gN gW gD L : Nat} {Af : Option Addr} {nf cf : Nat} {a b c d e : Int} {fs : List Flt} {s : ChS} (hC : RefW w m gB gN gW gD L Af nf cf a b c d e fs s) {k l : Nat} (hk : (k : Int) < a) (hl : (l : Int) < b) : ∃ n RW : Nat, numberI a b (k : Int) (l : Int) = (n : Int) ∧ (RW : Int) = c + 16 ∧ n * RW + RW ≤ s.X.length ∧ 40 ≤ RW ∧ RW ≤ 80 ∧ n < 200 ∧ (n : Int) = (k : Int) * b + (l : Int) ∧ (n : Int) < a * b := by
  obtain ⟨hm, -, -⟩ := planMay_bd hC.may
  obtain ⟨g1, g2, g3, g4, g5, g6, -⟩ := may_bd hm
  have hth : thereB a b (k : Int) (l : Int) = true := by
    unfold thereB withinB
    simp
    omega
  have h1 : (k : Int) * b ≤ (a - 1) * b := Int.mul_le_mul_of_nonneg_right (by omega) (by omega)
  rw [Int.sub_mul] at h1
  have h0 : 0 ≤ (k : Int) * b := Int.mul_nonneg (by omega) (by omega)
  have h2 : a * b ≤ 20 * 8 := Int.mul_le_mul g2 g4 (by omega) (by omega)
  have h3 : ((k : Int) * b + (l : Int) + 1) * (c + 16) ≤ a * b * (c + 16) := Int.mul_le_mul_of_nonneg_right (by omega) (by omega)
  obtain ⟨n, hn⟩ : ∃ n : Nat, (n : Int) = (k : Int) * b + (l : Int) := ⟨((k : Int) * b + (l : Int)).toNat, by omega⟩
  obtain ⟨RW, hR⟩ : ∃ RW : Nat, (RW : Int) = c + 16 := ⟨(c + 16).toNat, by omega⟩
  refine ⟨n, RW, by rw [number_yes hth]; exact hn.symm, hR, ?_, by omega, by omega, by omega, hn, by omega⟩
  rw [← hn, ← hR, Int.add_mul, Int.one_mul] at h3
  have h4 : ((n * RW + RW : Nat) : Int) = (n : Int) * (RW : Int) + (RW : Int) := by push_cast; rfl
  rw [hC.lenX, ← hR]
  omega
theorem rturn_b (m gB gN gW gD L : Nat) (Af : Option Addr) (nf cf : Nat) (a b c d e : Int) (fs : List Flt) (n : Int) (T : Bool) (w : World) (s : ChS) (hC : RefW w m gB gN gW gD L Af nf cf a b c d e fs s) (hb : s.Bnd n) (hn : n ≤ 1000000000) (hw : s.Wt) (hcu : Hid (s.cutB = T)) : Calls Try.prog 68 #[.pointer (some ⟨m, 0, none⟩)] w fun e' w' => e' = .returned (.bool T) ∧ RefW w' m gB gN gW gD L Af nf cf a b c d e fs s.tick ∧ Tch (fun g => g = m) w w' := by
  have := turn_any m gB gN gW gD L Af nf cf a b c d e fs n w s hC hb hn hw
  rwa [hcu.out] at this
theorem tch_r {m gB gN gW gD : Nat} {w w' : World} (h : Tch (fun g => g = m) w w') : Tch (rfB m gB gN gW gD) w w' := h.mono (fun g e => Or.inl e)
theorem rread_off (m gB gN gW gD L : Nat) (Af : Option Addr) (nf cf : Nat) (a b c d e : Int) (fs : List Flt) (x y : Int) (w : World) (s : ChS) (hC : RefW w m gB gN gW gD L Af nf cf a b c d e fs s) (ho : s.on = false) : Calls Try.prog 40 #[.pointer (some ⟨m, 0, none⟩), .agg #[.int .i64 x, .int .i64 y]] w fun e' w' => e' = .returned (.tuple #[.slice none 0 0, .int .i64 9]) ∧ Below w.heap.size w w' := by
  have HM := Lib.hid (planMay_bd hC.may).1
  have hmw := hC.lt
  have HB0 : Below w.heap.size w (w.alloc (.cells #[.int .i64 x, .int .i64 y] 33)) := (Below.refl _ _).alloc (Nat.le_refl _) _
  have G1 : Blk (w.alloc (.cells #[.int .i64 x, .int .i64 y] 33)) w.heap.size 33 #[.int .i64 x, .int .i64 y] := Blk.new_ _ _ _
  have z0 : (w.alloc (.cells #[.int .i64 x, .int .i64 y] 33)).cell? ⟨w.heap.size, 0, none⟩ = some (.int .i64 x) := G1.cell_ 0
  have z1 : (w.alloc (.cells #[.int .i64 x, .int .i64 y] 33)).cell? ⟨w.heap.size, 1, none⟩ = some (.int .i64 y) := G1.cell_ 1
  have hC := hC.below HB0
  obtain ⟨NP, NB, RWc, cB, HCC⟩ := hC.cells
  have y0 := HCC.y0; have y1 := HCC.y1; have y2 := HCC.y2; have y3 := HCC.y3; have y4 := HCC.y4; have y12 := HCC.y12
  rw [show (!s.on) = true by rw [ho]; rfl] at y12
  clear ho
  clear hC HCC G1 z0 z1
  go_enter Try.func40, Try.ntmps40
  go_wp2_with fail
  go_ret2
  exact ⟨rfl, HB0⟩
set_option maxHeartbeats 4000000 in
theorem rread_arg (m gB gN gW gD L : Nat) (Af : Option Addr) (nf cf : Nat) (a b c d e : Int) (fs : List Flt) (x y : Int) (w : World) (s : ChS) (hC : RefW w m gB gN gW gD L Af nf cf a b c d e fs s) (ho : s.on = true) (ht : Hid (thereB a b x y = false)) : Calls Try.prog 40 #[.pointer (some ⟨m, 0, none⟩), .agg #[.int .i64 x, .int .i64 y]] w fun e' w' => e' = .returned (.tuple #[.slice none 0 0, .int .i64 2]) ∧ Below w.heap.size w w' := by
  have HM := Lib.hid (planMay_bd hC.may).1
  have hmw := hC.lt
  have HB0 : Below w.heap.size w (w.alloc (.cells #[.int .i64 x, .int .i64 y] 33)) := (Below.refl _ _).alloc (Nat.le_refl _) _
  have G1 : Blk (w.alloc (.cells #[.int .i64 x, .int .i64 y] 33)) w.heap.size 33 #[.int .i64 x, .int .i64 y] := Blk.new_ _ _ _
  have z0 : (w.alloc (.cells #[.int .i64 x, .int .i64 y] 33)).cell? ⟨w.heap.size, 0, none⟩ = some (.int .i64 x) := G1.cell_ 0
  have z1 : (w.alloc (.cells #[.int .i64 x, .int .i64 y] 33)).cell? ⟨w.heap.size, 1, none⟩ = some (.int .i64 y) := G1.cell_ 1
  have hC := hC.below HB0
  obtain ⟨NP, NB, RWc, cB, HCC⟩ := hC.cells
  have y0 := HCC.y0; have y1 := HCC.y1; have y2 := HCC.y2; have y3 := HCC.y3; have y4 := HCC.y4; have y12 := HCC.y12
  have HO := Lib.hid ho
  rw [show (!s.on) = false by rw [ho]; rfl] at y12
  clear ho
  go_enter Try.func40, Try.ntmps40
  go_upto_region 3 with fail
  refine wp_region_noPanic ?_
  refine wp_region_held_drew (S := (fun w' => w'.cell? ⟨m, 0, none⟩ = some (.int .i64 a) ∧ w'.cell? ⟨m, 1, none⟩ = some (.int .i64 b) ∧ w'.cell? ⟨m, 2, none⟩ = some (.int .i64 c) ∧ w'.cell? ⟨m, 3, none⟩ = some (.int .i64 d) ∧ w'.cell? ⟨m, 4, none⟩ = some (.int .i64 e) ∧ w'.cell? ⟨w.heap.size, 0, none⟩ = some (.int .i64 x) ∧ w'.cell? ⟨w.heap.size, 1, none⟩ = some (.int .i64 y))) (by kernel_rfl) ?_ (fun hHeld => ?_)
  · (first | exact ⟨y0, y1, y2, y3, y4, z0, z1⟩ | assumption)
  refine wpAnyH_take (i := 0) (oi := ⟨some 12, .move (.tmp 0), 29, "ref.go:66", #[], none⟩) (v := ?_) rfl (by kernel_rfl) (by kernel_rfl) (by kernel_rfl) (fun _ _ _ h => h) (Or.inl ⟨by rfl, ?_⟩) (by assumption) ?_
  rotate_left
  · (intro wS hSw; (try dsimp only at hSw); go_simp; (try with_reducible rfl))
  try simp only [Act.put, pz1, pz2, pz3]
  refine wpAnyH_take (i := 1) (oi := ⟨some 13, .nilCheck (.tmp 12), 0, "ref.go:66", #[⟨0, .data⟩], none⟩) (v := ?_) rfl (by kernel_rfl) (by kernel_rfl) (by kernel_rfl) (fun _ _ _ h => h) (Or.inl ⟨by rfl, ?_⟩) (by assumption) ?_
  rotate_left
  · (intro wS hSw; (try dsimp only at hSw); go_simp; (try with_reducible rfl))
  try simp only [Act.put, pz1, pz2, pz3]
  refine wpAnyH_take (i := 2) (oi := ⟨some 14, .fieldAddr 42 (.tmp 13) 0, 0, "ref.go:66", #[⟨1, .data⟩], none⟩) (v := ?_) rfl (by kernel_rfl) (by kernel_rfl) (by kernel_rfl) (fun _ _ _ h => h) (Or.inl ⟨by rfl, ?_⟩) (by assumption) ?_
  rotate_left
  · (intro wS hSw; (try dsimp only at hSw); go_simp; (try with_reducible rfl))
  try simp only [Act.put, pz1, pz2, pz3]
  refine wpAnyH_take (i := 3) (oi := ⟨some 15, .load 23 (.tmp 14), 23, "ref.go:66", #[⟨2, .data⟩], none⟩) (v := ?_) rfl (by kernel_rfl) (by kernel_rfl) (by kernel_rfl) (fun _ _ _ h => h) (Or.inl ⟨by rfl, ?_⟩) (by assumption) ?_
  rotate_left
  · (intro wS hSw; (try dsimp only at hSw); go_simp; (try with_reducible rfl))
  try simp only [Act.put, pz1, pz2, pz3]
  refine wpAnyH_take (i := 4) (oi := ⟨some 16, .load 33 (.tmp 3), 33, "ref.go:66", #[], none⟩) (v := ?_) rfl (by kernel_rfl) (by kernel_rfl) (by kernel_rfl) (fun _ _ _ h => h) (Or.inl ⟨by rfl, ?_⟩) (by assumption) ?_
  rotate_left
  · (intro wS hSw; (try dsimp only at hSw); go_simp; (try with_reducible rfl))
  try simp only [Act.put, pz1, pz2, pz3]
  refine wpAnyH_ready (rs := [5]) (by kernel_rfl) (by simp) ?_
  refine AllReadyH.cons (o := ⟨some 17, .call { callee := .value (.func 67), args := #[.tmp 15, .tmp 16], argTypes := #[23, 33] }, 4, "ref.go:66", #[⟨3, .data⟩, ⟨4, .data⟩], none⟩) rfl (fun K hK => ?_) AllReadyH.nil
  go_simp
  (go_at_call 67; ((with_reducible refine (rthr_b _ _ _ _ _ x y _ _ HM ht).mono ?_); rintro e' wN ⟨rfl, hb⟩; (try have hb := undrew hb); replace hC := RefW.likeB hC hb; replace HB0 := btr HB0 HB0.size hb; replace G1 := G1.below hb G1.lt; replace HCC := RefC.below HCC hb; clear z0 z1; clear y0 y1 y2 y3 y4 y12; have z0 := G1.cell_ 0; have z1 := G1.cell_ 1; simp at z0 z1; have y0 := HCC.y0; have y1 := HCC.y1; have y2 := HCC.y2; have y3 := HCC.y3; have y4 := HCC.y4; have y12 := HCC.y12))
  go_wp2_with fail
  refine hK.out _ _ ?_ (fun hNew => ?_)
  · (first | exact ⟨y0, y1, y2, y3, y4, z0, z1⟩ | assumption)
  clear hK K hHeld
  have hHeld := hNew
  clear hNew
  try simp only [Act.put, pz1, pz2, pz3]
  refine wpAnyH_take (i := 6) (oi := ⟨some 18, .unOp .not 4 (.tmp 17), 4, "ref.go:66", #[⟨5, .data⟩], none⟩) (v := ?_) rfl (by kernel_rfl) (by kernel_rfl) (by kernel_rfl) (fun _ _ _ h => h) (Or.inl ⟨by rfl, ?_⟩) (by assumption) ?_
  rotate_left
  · (intro wS hSw; (try dsimp only at hSw); go_simp; (try with_reducible rfl))
  try simp only [Act.put, pz1, pz2, pz3]
  refine wpAnyH_take (i := 7) (oi := ⟨some 11, .assign (.tmp 18), 4, "ref.go:66", #[⟨6, .data⟩, ⟨5, .chain⟩], none⟩) (v := ?_) rfl (by kernel_rfl) (by kernel_rfl) (by kernel_rfl) (fun _ _ _ h => h) (Or.inl ⟨by rfl, ?_⟩) (by assumption) ?_
  rotate_left
  · (intro wS hSw; (try dsimp only at hSw); go_simp; (try with_reducible rfl))
  try simp only [Act.put, pz1, pz2, pz3]
  refine wpAnyH_done (by kernel_rfl) ?_ _
  refine NoPanic.normal ?_
  go_wp2_with fail
  go_ret2
  exact ⟨rfl, (by first | exact HB0 | exact HB0.drew)⟩
set_option maxHeartbeats 4000000 in
theorem rread_cut (m gB gN gW gD L : Nat) (Af : Option Addr) (nf cf : Nat) (a b c d e : Int) (fs : List Flt) (x y n : Int) (w : World) (s : ChS) (hC : RefW w m gB gN gW gD L Af nf cf a b c d e fs s) (hbn : s.Bnd n) (hn : n ≤ 1000000000) (hwt : s.Wt) (ho : s.on = true) (ht : Hid (thereB a b x y = true)) (hcu : Hid (s.cutB = true)) : Calls Try.prog 40 #[.pointer (some ⟨m, 0, none⟩), .agg #[.int .i64 x, .int .i64 y]] w fun e' w' => e' = .returned (.tuple #[.slice none 0 0, .int .i64 9]) ∧ RefW w' m gB gN gW gD L Af nf cf a b c d e fs s.tick ∧ Tch (fun g => g = m) w w' := by
  have HM := Lib.hid (planMay_bd hC.may).1
  have hmw := hC.lt
  have HB0 : Below w.heap.size w (w.alloc (.cells #[.int .i64 x, .int .i64 y] 33)) := (Below.refl _ _).alloc (Nat.le_refl _) _
  have G1 : Blk (w.alloc (.cells #[.int .i64 x, .int .i64 y] 33)) w.heap.size 33 #[.int .i64 x, .int .i64 y] := Blk.new_ _ _ _
  have z0 : (w.alloc (.cells #[.int .i64 x, .int .i64 y] 33)).cell? ⟨w.heap.size, 0, none⟩ = some (.int .i64 x) := G1.cell_ 0
  have z1 : (w.alloc (.cells #[.int .i64 x, .int .i64 y] 33)).cell? ⟨w.heap.size, 1, none⟩ = some (.int .i64 y) := G1.cell_ 1
  have hC := hC.below HB0
  obtain ⟨NP, NB, RWc, cB, HCC⟩ := hC.cells
  have y0 := HCC.y0; have y1 := HCC.y1; have y2 := HCC.y2; have y3 := HCC.y3; have y4 := HCC.y4; have y12 := HCC.y12
  have hnm : ¬ w.heap.size = m := by omega
  rw [show (!s.on) = false by rw [ho]; rfl] at y12
  clear ho
  go_enter Try.func40, Try.ntmps40
  go_upto_region 3 with fail
  refine wp_region_noPanic ?_
  refine wp_region_held_drew (S := (fun w' => w'.cell? ⟨m, 0, none⟩ = some (.int .i64 a) ∧ w'.cell? ⟨m, 1, none⟩ = some (.int .i64 b) ∧ w'.cell? ⟨m, 2, none⟩ = some (.int .i64 c) ∧ w'.cell? ⟨m, 3, none⟩ = some (.int .i64 d) ∧ w'.cell? ⟨m, 4, none⟩ = some (.int .i64 e) ∧ w'.cell? ⟨w.heap.size, 0, none⟩ = some (.int .i64 x) ∧ w'.cell? ⟨w.heap.size, 1, none⟩ = some (.int .i64 y))) (by kernel_rfl) ?_ (fun hHeld => ?_)
  · (first | exact ⟨y0, y1, y2, y3, y4, z0, z1⟩ | assumption)
  refine wpAnyH_take (i := 0) (oi := ⟨some 12, .move (.tmp 0), 29, "ref.go:66", #[], none⟩) (v := ?_) rfl (by kernel_rfl) (by kernel_rfl) (by kernel_rfl) (fun _ _ _ h => h) (Or.inl ⟨by rfl, ?_⟩) (by assumption) ?_
  rotate_left
  · (intro wS hSw; (try dsimp only at hSw); go_simp; (try with_reducible rfl))
  try simp only [Act.put, pz1, pz2, pz3]
  refine wpAnyH_take (i := 1) (oi := ⟨some 13, .nilCheck (.tmp 12), 0, "ref.go:66", #[⟨0, .data⟩], none⟩) (v := ?_) rfl (by kernel_rfl) (by kernel_rfl) (by kernel_rfl) (fun _ _ _ h => h) (Or.inl ⟨by rfl, ?_⟩) (by assumption) ?_
  rotate_left
  · (intro wS hSw; (try dsimp only at hSw); go_simp; (try with_reducible rfl))
  try simp only [Act.put, pz1, pz2, pz3]
  refine wpAnyH_take (i := 2) (oi := ⟨some 14, .fieldAddr 42 (.tmp 13) 0, 0, "ref.go:66", #[⟨1, .data⟩], none⟩) (v := ?_) rfl (by kernel_rfl) (by kernel_rfl) (by kernel_rfl) (fun _ _ _ h => h) (Or.inl ⟨by rfl, ?_⟩) (by assumption) ?_
  rotate_left
  · (intro wS hSw; (try dsimp only at hSw); go_simp; (try with_reducible rfl))
  try simp only [Act.put, pz1, pz2, pz3]
  refine wpAnyH_take (i := 3) (oi := ⟨some 15, .load 23 (.tmp 14), 23, "ref.go:66", #[⟨2, .data⟩], none⟩) (v := ?_) rfl (by kernel_rfl) (by kernel_rfl) (by kernel_rfl) (fun _ _ _ h => h) (Or.inl ⟨by rfl, ?_⟩) (by assumption) ?_
  rotate_left
  · (intro wS hSw; (try dsimp only at hSw); go_simp; (try with_reducible rfl))
  try simp only [Act.put, pz1, pz2, pz3]
  refine wpAnyH_take (i := 4) (oi := ⟨some 16, .load 33 (.tmp 3), 33, "ref.go:66", #[], none⟩) (v := ?_) rfl (by kernel_rfl) (by kernel_rfl) (by kernel_rfl) (fun _ _ _ h => h) (Or.inl ⟨by rfl, ?_⟩) (by assumption) ?_
  rotate_left
  · (intro wS hSw; (try dsimp only at hSw); go_simp; (try with_reducible rfl))
  try simp only [Act.put, pz1, pz2, pz3]
  refine wpAnyH_ready (rs := [5]) (by kernel_rfl) (by simp) ?_
  refine AllReadyH.cons (o := ⟨some 17, .call { callee := .value (.func 67), args := #[.tmp 15, .tmp 16], argTypes := #[23, 33] }, 4, "ref.go:66", #[⟨3, .data⟩, ⟨4, .data⟩], none⟩) rfl (fun K hK => ?_) AllReadyH.nil
  go_simp
  (go_at_call 67; ((with_reducible refine (rthr_b _ _ _ _ _ x y _ _ HM ht).mono ?_); rintro e' wN ⟨rfl, hb⟩; (try have hb := undrew hb); replace hC := RefW.likeB hC hb; replace HB0 := btr HB0 HB0.size hb; replace G1 := G1.below hb G1.lt; replace HCC := RefC.below HCC hb; clear z0 z1; clear y0 y1 y2 y3 y4 y12; have z0 := G1.cell_ 0; have z1 := G1.cell_ 1; simp at z0 z1; have y0 := HCC.y0; have y1 := HCC.y1; have y2 := HCC.y2; have y3 := HCC.y3; have y4 := HCC.y4; have y12 := HCC.y12))
  go_wp2_with fail
  refine hK.out _ _ ?_ (fun hNew => ?_)
  · (first | exact ⟨y0, y1, y2, y3, y4, z0, z1⟩ | assumption)
  clear hK K hHeld
  have hHeld := hNew
  clear hNew
  try simp only [Act.put, pz1, pz2, pz3]
  refine wpAnyH_take (i := 6) (oi := ⟨some 18, .unOp .not 4 (.tmp 17), 4, "ref.go:66", #[⟨5, .data⟩], none⟩) (v := ?_) rfl (by kernel_rfl) (by kernel_rfl) (by kernel_rfl) (fun _ _ _ h => h) (Or.inl ⟨by rfl, ?_⟩) (by assumption) ?_
  rotate_left
  · (intro wS hSw; (try dsimp only at hSw); go_simp; (try with_reducible rfl))
  try simp only [Act.put, pz1, pz2, pz3]
  refine wpAnyH_take (i := 7) (oi := ⟨some 11, .assign (.tmp 18), 4, "ref.go:66", #[⟨6, .data⟩, ⟨5, .chain⟩], none⟩) (v := ?_) rfl (by kernel_rfl) (by kernel_rfl) (by kernel_rfl) (fun _ _ _ h => h) (Or.inl ⟨by rfl, ?_⟩) (by assumption) ?_
  rotate_left
  · (intro wS hSw; (try dsimp only at hSw); go_simp; (try with_reducible rfl))
  try simp only [Act.put, pz1, pz2, pz3]
  refine wpAnyH_done (by kernel_rfl) ?_ _
  refine NoPanic.normal ?_
  go_wp2_with (go_at_call 68; ((with_reducible refine (rturn_b _ _ _ _ _ _ _ _ _ _ _ _ _ _ _ _ _ _ _ hC hbn hn hwt hcu).mono ?_); rintro e' wN ⟨rfl, hC2, hT⟩; have HT := (Tch.of_below (S := fun g => g = m) HB0).trans (Tch.like0 hT); have hlt0 := hT.far w.heap.size G1.lt hnm; replace G1 : Blk wN w.heap.size _ _ := hlt0.trans G1; clear hlt0 hC HCC; have hC := hC2; clear hC2 z0 z1; clear y0 y1 y2 y3 y4 y12; have z0 := G1.cell_ 0; have z1 := G1.cell_ 1; simp at z0 z1))
  go_ret2
  exact ⟨rfl, hC, HT⟩
end Go.Proofs.Ytplniojeaodjiaa
namespace Go.Proofs.Ytplniojeaodjiaa
open Go.ChangeShapes Go.WideShapes Go.ChangeAt Go.RowKit
set_option linter.unusedSimpArgs false
set_option linter.unusedVariables false

theorem Tch.thenB {S : Nat → Prop} {w w1 w1' w2 : World} (h : Tch S w w1) (hb : Below w1'.heap.size w1' w2) (e1 : w1'.heap = w1.heap := by rfl) (e2 : w1'.os = w1.os := by rfl) (e3 : w1'.tape = w1.tape := by rfl) (e4 : w1'.output = w1.output := by rfl) : Tch S w w2 :=
  (h.like e1 e2 e3 e4).then hb
set_option maxHeartbeats 4000000 in
theorem rread_ok (m gB gN gW gD L : Nat) (Af : Option Addr) (nf cf : Nat) (a b c d e : Int) (fs : List Flt) (k l N RW : Nat) (n : Int) (w : World) (s : ChS) (hC : RefW w m gB gN gW gD L Af nf cf a b c d e fs s) (hbn : s.Bnd n) (hn : n ≤ 1000000000) (hwt : s.Wt) (ho : s.on = true) (hcu : Hid (s.cutB = false)) (hk : (k : Int) < a) (hl : (l : Int) < b) (hnum : Hid (numberI a b (k : Int) (l : Int) = (N : Int))) (hrw : (RW : Int) = c + 16) (hfit0 : N * RW + RW ≤ s.X.length) (r1 : 40 ≤ RW) (r2 : RW ≤ 80) (hN2 : N < 200) (hNab : (N : Int) < a * b) : Calls Try.prog 40 #[.pointer (some ⟨m, 0, none⟩), .agg #[.int .i64 (k : Int), .int .i64 (l : Int)]] w fun e' w' => (∃ g' c', e' = .returned (.tuple #[.slice (some ⟨g', 0, none⟩) RW c', .int .i64 0]) ∧ RowT w' g' 5 ((s.pageOf N RW).map byteV) ∧ w.heap.size ≤ g') ∧ RefW w' m gB gN gW gD L Af nf cf a b c d e fs s.tick ∧ Tch (fun g => g = m) w w' := by
  have ht : Hid (thereB a b (k : Int) (l : Int) = true) := Lib.hid (by unfold thereB withinB; simp; omega)
  have hfit : N * RW + RW ≤ s.tick.X.length := by rw [tick_X]; exact hfit0
  have hpo : s.tick.pageOf N RW = s.pageOf N RW := by unfold ChS.pageOf; rw [tick_X]
  have HPO := Lib.hid hpo
  have HRW := Lib.hid hrw
  have HNAB := Lib.hid hNab
  have HFIT := Lib.hid hfit
  clear hpo hrw hfit0 hNab hfit hk hl
  have HM := Lib.hid (planMay_bd hC.may).1
  have hmw := hC.lt
  have HB0 : Below w.heap.size w (w.alloc (.cells #[.int .i64 (k : Int), .int .i64 (l : Int)] 33)) := (Below.refl _ _).alloc (Nat.le_refl _) _
  have G1 : Blk (w.alloc (.cells #[.int .i64 (k : Int), .int .i64 (l : Int)] 33)) w.heap.size 33 #[.int .i64 (k : Int), .int .i64 (l : Int)] := Blk.new_ _ _ _
  have z0 : (w.alloc (.cells #[.int .i64 (k : Int), .int .i64 (l : Int)] 33)).cell? ⟨w.heap.size, 0, none⟩ = some (.int .i64 (k : Int)) := G1.cell_ 0
  have z1 : (w.alloc (.cells #[.int .i64 (k : Int), .int .i64 (l : Int)] 33)).cell? ⟨w.heap.size, 1, none⟩ = some (.int .i64 (l : Int)) := G1.cell_ 1
  have hC := hC.below HB0
  obtain ⟨NP, NB, RWc, cB, HCC⟩ := hC.cells
  have y0 := HCC.y0; have y1 := HCC.y1; have y2 := HCC.y2; have y3 := HCC.y3; have y4 := HCC.y4; have y12 := HCC.y12
  have hnm : ¬ w.heap.size = m := by omega
  rw [show (!s.on) = false by rw [ho]; rfl] at y12
  clear ho
  go_enter Try.func40, Try.ntmps40
  go_upto_region 3 with fail
  refine wp_region_noPanic ?_
  refine wp_region_held_drew (S := (fun w' => w'.cell? ⟨m, 0, none⟩ = some (.int .i64 a) ∧ w'.cell? ⟨m, 1, none⟩ = some (.int .i64 b) ∧ w'.cell? ⟨m, 2, none⟩ = some (.int .i64 c) ∧ w'.cell? ⟨m, 3, none⟩ = some (.int .i64 d) ∧ w'.cell? ⟨m, 4, none⟩ = some (.int .i64 e) ∧ w'.cell? ⟨w.heap.size, 0, none⟩ = some (.int .i64 (k : Int)) ∧ w'.cell? ⟨w.heap.size, 1, none⟩ = some (.int .i64 (l : Int)))) (by kernel_rfl) ?_ (fun hHeld => ?_)
  · (first | exact ⟨y0, y1, y2, y3, y4, z0, z1⟩ | assumption)
  refine wpAnyH_take (i := 0) (oi := ⟨some 12, .move (.tmp 0), 29, "ref.go:66", #[], none⟩) (v := ?_) rfl (by kernel_rfl) (by kernel_rfl) (by kernel_rfl) (fun _ _ _ h => h) (Or.inl ⟨by rfl, ?_⟩) (by assumption) ?_
  rotate_left
  · (intro wS hSw; (try dsimp only at hSw); go_simp; (try with_reducible rfl))
  try simp only [Act.put, pz1, pz2, pz3]
  refine wpAnyH_take (i := 1) (oi := ⟨some 13, .nilCheck (.tmp 12), 0, "ref.go:66", #[⟨0, .data⟩], none⟩) (v := ?_) rfl (by kernel_rfl) (by kernel_rfl) (by kernel_rfl) (fun _ _ _ h => h) (Or.inl ⟨by rfl, ?_⟩) (by assumption) ?_
  rotate_left
  · (intro wS hSw; (try dsimp only at hSw); go_simp; (try with_reducible rfl))
  try simp only [Act.put, pz1, pz2, pz3]
  refine wpAnyH_take (i := 2) (oi := ⟨some 14, .fieldAddr 42 (.tmp 13) 0, 0, "ref.go:66", #[⟨1, .data⟩], none⟩) (v := ?_) rfl (by kernel_rfl) (by kernel_rfl) (by kernel_rfl) (fun _ _ _ h => h) (Or.inl ⟨by rfl, ?_⟩) (by assumption) ?_
  rotate_left
  · (intro wS hSw; (try dsimp only at hSw); go_simp; (try with_reducible rfl))
  try simp only [Act.put, pz1, pz2, pz3]
  refine wpAnyH_take (i := 3) (oi := ⟨some 15, .load 23 (.tmp 14), 23, "ref.go:66", #[⟨2, .data⟩], none⟩) (v := ?_) rfl (by kernel_rfl) (by kernel_rfl) (by kernel_rfl) (fun _ _ _ h => h) (Or.inl ⟨by rfl, ?_⟩) (by assumption) ?_
  rotate_left
  · (intro wS hSw; (try dsimp only at hSw); go_simp; (try with_reducible rfl))
  try simp only [Act.put, pz1, pz2, pz3]
  refine wpAnyH_take (i := 4) (oi := ⟨some 16, .load 33 (.tmp 3), 33, "ref.go:66", #[], none⟩) (v := ?_) rfl (by kernel_rfl) (by kernel_rfl) (by kernel_rfl) (fun _ _ _ h => h) (Or.inl ⟨by rfl, ?_⟩) (by assumption) ?_
  rotate_left
  · (intro wS hSw; (try dsimp only at hSw); go_simp; (try with_reducible rfl))
  try simp only [Act.put, pz1, pz2, pz3]
  refine wpAnyH_ready (rs := [5]) (by kernel_rfl) (by simp) ?_
  refine AllReadyH.cons (o := ⟨some 17, .call { callee := .value (.func 67), args := #[.tmp 15, .tmp 16], argTypes := #[23, 33] }, 4, "ref.go:66", #[⟨3, .data⟩, ⟨4, .data⟩], none⟩) rfl (fun K hK => ?_) AllReadyH.nil
  go_simp
  (go_at_call 67; ((with_reducible refine (rthr_b _ _ _ _ _ (k : Int) (l : Int) _ _ HM ht).mono ?_); rintro e' wN ⟨rfl, hb⟩; (try have hb := undrew hb); replace hC := RefW.likeB hC hb; replace HB0 := btr HB0 HB0.size hb; replace G1 := G1.below hb G1.lt; replace HCC := RefC.below HCC hb; clear z0 z1; clear y0 y1 y2 y3 y4 y12; have z0 := G1.cell_ 0; have z1 := G1.cell_ 1; simp at z0 z1; have y0 := HCC.y0; have y1 := HCC.y1; have y2 := HCC.y2; have y3 := HCC.y3; have y4 := HCC.y4; have y12 := HCC.y12))
  go_wp2_with fail
  refine hK.out _ _ ?_ (fun hNew => ?_)
  · (first | exact ⟨y0, y1, y2, y3, y4, z0, z1⟩ | assumption)
  clear hK K hHeld
  have hHeld := hNew
  clear hNew
  try simp only [Act.put, pz1, pz2, pz3]
  refine wpAnyH_take (i := 6) (oi := ⟨some 18, .unOp .not 4 (.tmp 17), 4, "ref.go:66", #[⟨5, .data⟩], none⟩) (v := ?_) rfl (by kernel_rfl) (by kernel_rfl) (by kernel_rfl) (fun _ _ _ h => h) (Or.inl ⟨by rfl, ?_⟩) (by assumption) ?_
  rotate_left
  · (intro wS hSw; (try dsimp only at hSw); go_simp; (try with_reducible rfl))
  try simp only [Act.put, pz1, pz2, pz3]
  refine wpAnyH_take (i := 7) (oi := ⟨some 11, .assign (.tmp 18), 4, "ref.go:66", #[⟨6, .data⟩, ⟨5, .chain⟩], none⟩) (v := ?_) rfl (by kernel_rfl) (by kernel_rfl) (by kernel_rfl) (fun _ _ _ h => h) (Or.inl ⟨by rfl, ?_⟩) (by assumption) ?_
  rotate_left
  · (intro wS hSw; (try dsimp only at hSw); go_simp; (try with_reducible rfl))
  try simp only [Act.put, pz1, pz2, pz3]
  refine wpAnyH_done (by kernel_rfl) ?_ _
  refine NoPanic.normal ?_
  go_upto_region 7 with (go_at_call 68; ((with_reducible refine (rturn_b _ _ _ _ _ _ _ _ _ _ _ _ _ _ _ _ _ _ _ hC hbn hn hwt hcu).mono ?_); rintro e' wN ⟨rfl, hC2, hT⟩; have HT := (Tch.of_below (S := fun g => g = m) HB0).trans (Tch.like0 hT); have hlt0 := hT.far w.heap.size G1.lt hnm; replace G1 : Blk wN w.heap.size _ _ := hlt0.trans G1; clear hlt0 hC HCC; have hC := hC2; clear hC2 z0 z1; clear y0 y1 y2 y3 y4 y12; have z0 := G1.cell_ 0; have z1 := G1.cell_ 1; simp at z0 z1))
  obtain ⟨NP, NB, RWc, cB, HCC⟩ := hC.cells
  obtain ⟨p, cp, HP⟩ := hC.page HRW.out HNAB.out HFIT.out
  have y0 := HCC.y0; have y1 := HCC.y1; have y2 := HCC.y2; have y3 := HCC.y3; have y4 := HCC.y4; have y6 := HCC.y6
  have cN := HP.cN
  have i0 : (0 : Int) ≤ (N : Int) := by omega
  have i1 : (N : Int) < (NP : Int) := by have := HCC.hNP.out; have := HNAB.out; omega
  have hsz0 : w.heap.size ≤ wN.heap.size := HT.size
  refine wp_region_noPanic ?_
  refine wp_region_held_drew (S := (fun w' => w'.cell? ⟨m, 0, none⟩ = some (.int .i64 a) ∧ w'.cell? ⟨m, 1, none⟩ = some (.int .i64 b) ∧ w'.cell? ⟨m, 2, none⟩ = some (.int .i64 c) ∧ w'.cell? ⟨m, 3, none⟩ = some (.int .i64 d) ∧ w'.cell? ⟨m, 4, none⟩ = some (.int .i64 e) ∧ w'.cell? ⟨m, 6, none⟩ = some (.slice (some ⟨gB, 0, none⟩) NP cB) ∧ w'.cell? ⟨w.heap.size, 0, none⟩ = some (.int .i64 (k : Int)) ∧ w'.cell? ⟨w.heap.size, 1, none⟩ = some (.int .i64 (l : Int)) ∧ w'.cell? ⟨gB, N, none⟩ = some (.slice (some ⟨p, 0, none⟩) RW cp))) (by kernel_rfl) ?_ (fun hHeld => ?_)
  · (first | exact ⟨y0, y1, y2, y3, y4, y6, z0, z1, cN⟩ | assumption)
  refine wpAnyH_take (i := 0) (oi := ⟨some 22, .move (.tmp 0), 29, "ref.go:71", #[], none⟩) (v := ?_) rfl (by kernel_rfl) (by kernel_rfl) (by kernel_rfl) (fun _ _ _ h => h) (Or.inl ⟨by rfl, ?_⟩) (by assumption) ?_
  rotate_left
  · (intro wS hSw; (try dsimp only at hSw); go_simp; (try with_reducible rfl))
  try simp only [Act.put, pz1, pz2, pz3]
  refine wpAnyH_take (i := 1) (oi := ⟨some 23, .nilCheck (.tmp 22), 0, "ref.go:71", #[⟨0, .data⟩], none⟩) (v := ?_) rfl (by kernel_rfl) (by kernel_rfl) (by kernel_rfl) (fun _ _ _ h => h) (Or.inl ⟨by rfl, ?_⟩) (by assumption) ?_
  rotate_left
  · (intro wS hSw; (try dsimp only at hSw); go_simp; (try with_reducible rfl))
  try simp only [Act.put, pz1, pz2, pz3]
  refine wpAnyH_take (i := 2) (oi := ⟨some 24, .fieldAddr 42 (.tmp 23) 2, 0, "ref.go:71", #[⟨1, .data⟩], none⟩) (v := ?_) rfl (by kernel_rfl) (by kernel_rfl) (by kernel_rfl) (fun _ _ _ h => h) (Or.inl ⟨by rfl, ?_⟩) (by assumption) ?_
  rotate_left
  · (intro wS hSw; (try dsimp only at hSw); go_simp; (try with_reducible rfl))
  try simp only [Act.put, pz1, pz2, pz3]
  refine wpAnyH_take (i := 3) (oi := ⟨some 25, .load 39 (.tmp 24), 39, "ref.go:71", #[⟨2, .data⟩], none⟩) (v := ?_) rfl (by kernel_rfl) (by kernel_rfl) (by kernel_rfl) (fun _ _ _ h => h) (Or.inl ⟨by rfl, ?_⟩) (by assumption) ?_
  rotate_left
  · (intro wS hSw; (try dsimp only at hSw); go_simp; (try with_reducible rfl))
  try simp only [Act.put, pz1, pz2, pz3]
  refine wpAnyH_take (i := 4) (oi := ⟨some 26, .move (.tmp 0), 29, "ref.go:71", #[], none⟩) (v := ?_) rfl (by kernel_rfl) (by kernel_rfl) (by kernel_rfl) (fun _ _ _ h => h) (Or.inl ⟨by rfl, ?_⟩) (by assumption) ?_
  rotate_left
  · (intro wS hSw; (try dsimp only at hSw); go_simp; (try with_reducible rfl))
  try simp only [Act.put, pz1, pz2, pz3]
  refine wpAnyH_take (i := 5) (oi := ⟨some 27, .nilCheck (.tmp 26), 0, "ref.go:71", #[⟨4, .data⟩], none⟩) (v := ?_) rfl (by kernel_rfl) (by kernel_rfl) (by kernel_rfl) (fun _ _ _ h => h) (Or.inl ⟨by rfl, ?_⟩) (by assumption) ?_
  rotate_left
  · (intro wS hSw; (try dsimp only at hSw); go_simp; (try with_reducible rfl))
  try simp only [Act.put, pz1, pz2, pz3]
  refine wpAnyH_take (i := 6) (oi := ⟨some 28, .fieldAddr 42 (.tmp 27) 0, 0, "ref.go:71", #[⟨5, .data⟩], none⟩) (v := ?_) rfl (by kernel_rfl) (by kernel_rfl) (by kernel_rfl) (fun _ _ _ h => h) (Or.inl ⟨by rfl, ?_⟩) (by assumption) ?_
  rotate_left
  · (intro wS hSw; (try dsimp only at hSw); go_simp; (try with_reducible rfl))
  try simp only [Act.put, pz1, pz2, pz3]
  refine wpAnyH_take (i := 7) (oi := ⟨some 29, .load 23 (.tmp 28), 23, "ref.go:71", #[⟨6, .data⟩], none⟩) (v := ?_) rfl (by kernel_rfl) (by kernel_rfl) (by kernel_rfl) (fun _ _ _ h => h) (Or.inl ⟨by rfl, ?_⟩) (by assumption) ?_
  rotate_left
  · (intro wS hSw; (try dsimp only at hSw); go_simp; (try with_reducible rfl))
  try simp only [Act.put, pz1, pz2, pz3]
  refine wpAnyH_take (i := 8) (oi := ⟨some 30, .load 33 (.tmp 3), 33, "ref.go:71", #[], none⟩) (v := ?_) rfl (by kernel_rfl) (by kernel_rfl) (by kernel_rfl) (fun _ _ _ h => h) (Or.inl ⟨by rfl, ?_⟩) (by assumption) ?_
  rotate_left
  · (intro wS hSw; (try dsimp only at hSw); go_simp; (try with_reducible rfl))
  try simp only [Act.put, pz1, pz2, pz3]
  refine wpAnyH_ready (rs := [9]) (by kernel_rfl) (by simp) ?_
  refine AllReadyH.cons (o := ⟨some 31, .call { callee := .value (.func 69), args := #[.tmp 29, .tmp 30], argTypes := #[23, 33] }, 3, "ref.go:71", #[⟨7, .data⟩, ⟨8, .data⟩], none⟩) rfl (fun K hK => ?_) AllReadyH.nil
  go_simp
  (go_at_call 69; ((with_reducible refine (rnum_c _ _ _ _ _ _ _ N _ HM hnum).mono ?_); rintro e' wN ⟨rfl, hb⟩; (try have hb := undrew hb); replace hC := RefW.likeB hC hb; replace HT := Tch.thenB HT hb; replace G1 := G1.below hb G1.lt; replace HCC := RefC.below HCC hb; replace HP := PgR.below HP hb; clear z0 z1 cN; clear y0 y1 y2 y3 y4 y6; have z0 := G1.cell_ 0; have z1 := G1.cell_ 1; simp at z0 z1; have y0 := HCC.y0; have y1 := HCC.y1; have y2 := HCC.y2; have y3 := HCC.y3; have y4 := HCC.y4; have y6 := HCC.y6; have cN := HP.cN))
  go_wp2_with fail
  refine hK.out _ _ ?_ (fun hNew => ?_)
  · (first | exact ⟨y0, y1, y2, y3, y4, y6, z0, z1, cN⟩ | assumption)
  clear hK K hHeld
  have hHeld := hNew
  clear hNew
  try simp only [Act.put, pz1, pz2, pz3]
  refine wpAnyH_take (i := 10) (oi := ⟨some 32, .indexAddr 39 (.tmp 25) (.tmp 31), 0, "ref.go:71", #[⟨3, .data⟩, ⟨9, .data⟩], none⟩) (v := ?_) rfl (by kernel_rfl) (by kernel_rfl) (by kernel_rfl) (fun _ _ _ h => h) (Or.inl ⟨by rfl, ?_⟩) (by assumption) ?_
  rotate_left
  · (intro wS hSw; (try dsimp only at hSw); go_simp; (try with_reducible rfl))
  try simp only [Act.put, pz1, pz2, pz3]
  refine wpAnyH_take (i := 11) (oi := ⟨some 33, .load 48 (.tmp 32), 48, "ref.go:71", #[⟨10, .data⟩], none⟩) (v := ?_) rfl (by kernel_rfl) (by kernel_rfl) (by kernel_rfl) (fun _ _ _ h => h) (Or.inl ⟨by rfl, ?_⟩) (by assumption) ?_
  rotate_left
  · (intro wS hSw; (try dsimp only at hSw); go_simp; (try with_reducible rfl))
  try simp only [Act.put, pz1, pz2, pz3]
  refine wpAnyH_ready (rs := [12]) (by kernel_rfl) (by simp) ?_
  refine AllReadyH.cons (o := ⟨some 34, .call { callee := .builtin .append, args := #[.const (.slice none 0 0), .tmp 33], argTypes := #[48, 48] }, 48, "ref.go:71", #[⟨11, .data⟩, ⟨9, .chain⟩], none⟩) rfl (fun K hK => ?_) AllReadyH.nil
  obtain ⟨ti0, hi, hz0, hz1, hz2⟩ := info_parts infoByte
  refine step_app _ rfl (.const (.slice none 0 0)) (.tmp 33) _ rfl wN.heap.size 5 ti0 _ 1 1 Try.underlying48 hi hz0 hz1 hz2 rfl (by decide) (.slice none 0 0) 0 [] rfl (World.ownsRow_nil _ _ _ _) (some ⟨p, 0, none⟩) RW cp ((s.tick.pageOf N RW).map byteV) rfl (HP.rd.keep (fun b o e j => rfl)) (oneB _) (by unfold maxLen; omega) (by omega) (Nat.le_refl _) ?_
  intro v9 w9 ho9 hg9 hv9
  clear hi hz0 hz1 hz2
  rw [Nat.zero_add, List.nil_append] at ho9
  obtain ⟨g9, c9, rfl, hR9, hge⟩ := own_rowT ho9 (by omega)
  have hb : Below wN.heap.size wN w9 := (Below.refl _ _).grown hg9 (Nat.le_refl _) (fun j hj => by simp [Value.ownBlock] at hj)
  have hszN := HT.size
  clear hg9 hv9 ho9
  replace hC := RefW.likeB hC hb
  replace HT := Tch.thenB HT hb
  replace G1 := G1.below hb G1.lt
  replace HCC := RefC.below HCC hb
  replace HP := PgR.below HP hb
  clear z0 z1 cN
  clear y0 y1 y2 y3 y4 y6
  have z0 := G1.cell_ 0
  have z1 := G1.cell_ 1
  simp at z0 z1
  have y0 := HCC.y0
  have y1 := HCC.y1
  have y2 := HCC.y2
  have y3 := HCC.y3
  have y4 := HCC.y4
  have y6 := HCC.y6
  have cN := HP.cN
  refine hK.out _ _ ?_ (fun hNew => ?_)
  · (first | exact ⟨y0, y1, y2, y3, y4, y6, z0, z1, cN⟩ | assumption)
  clear hK K hHeld
  have hHeld := hNew
  clear hNew
  try simp only [Act.put, pz1, pz2, pz3]
  refine wpAnyH_take (i := 13) (oi := ⟨some 4, .assign (.tmp 34), 48, "ref.go:71", #[⟨12, .data⟩, ⟨12, .chain⟩, ⟨0, .phase⟩, ⟨1, .phase⟩, ⟨2, .phase⟩, ⟨3, .phase⟩, ⟨4, .phase⟩, ⟨5, .phase⟩, ⟨6, .phase⟩, ⟨7, .phase⟩, ⟨8, .phase⟩, ⟨9, .phase⟩, ⟨10, .phase⟩, ⟨11, .phase⟩, ⟨12, .phase⟩], none⟩) (v := ?_) rfl (by kernel_rfl) (by kernel_rfl) (by kernel_rfl) (fun _ _ _ h => h) (Or.inl ⟨by rfl, ?_⟩) (by assumption) ?_
  rotate_left
  · (intro wS hSw; (try dsimp only at hSw); go_simp; (try with_reducible rfl))
  try simp only [Act.put, pz1, pz2, pz3]
  refine wpAnyH_take (i := 14) (oi := ⟨some 5, .assign (.const (.int .i64 0)), 3, "ref.go:71", #[⟨13, .chain⟩, ⟨0, .phase⟩, ⟨1, .phase⟩, ⟨2, .phase⟩, ⟨3, .phase⟩, ⟨4, .phase⟩, ⟨5, .phase⟩, ⟨6, .phase⟩, ⟨7, .phase⟩, ⟨8, .phase⟩, ⟨9, .phase⟩, ⟨10, .phase⟩, ⟨11, .phase⟩, ⟨12, .phase⟩, ⟨13, .phase⟩], none⟩) (v := ?_) rfl (by kernel_rfl) (by kernel_rfl) (by kernel_rfl) (fun _ _ _ h => h) (Or.inl ⟨by rfl, ?_⟩) (by assumption) ?_
  rotate_left
  · (intro wS hSw; (try dsimp only at hSw); go_simp; (try with_reducible rfl))
  try simp only [Act.put, pz1, pz2, pz3]
  refine wpAnyH_done (by kernel_rfl) ?_ _
  refine NoPanic.normal ?_
  go_wp2_with fail

  go_ret2
  rw [← HPO.out]
  exact ⟨⟨g9, c9, rfl, (by first | exact hR9 | exact RowT.keep hR9 rfl), by omega⟩, (by first | exact hC | exact hC.like), (by first | exact HT | exact HT.like)⟩
end Go.Proofs.Ytplniojeaodjiaa
namespace Go.Proofs.Ytplniojeaodjiaa
open Go.ChangeShapes Go.WideShapes Go.ChangeAt Go.RowKit
set_option linter.unusedSimpArgs false
set_option linter.unusedVariables false

theorem kcol_set (K : List Int) (j NB k : Nat) (v : Int) (hk : k < NB) (hl : k * 3 + j < K.length) (hj : j < 3) : kcol (K.set (k * 3 + j) v) j NB = (kcol K j NB).set k (.int .i64 v) := by
  apply List.ext_getElem?
  intro i
  unfold kcol
  rw [List.getElem?_set, List.getElem?_map, List.getElem?_map]
  by_cases hi : i < NB
  · rw [List.getElem?_range hi]
    simp only [Option.map_some, getD_setN]
    by_cases e : k = i
    · subst e
      rw [if_pos ⟨by omega, hl⟩, if_pos rfl, if_pos (by simpa using hk)]
    · rw [if_neg (by omega), if_neg e]
  · rw [List.getElem?_eq_none (by simp; omega)]
    by_cases e : k = i
    · omega
    · rw [if_neg e]
      rfl
theorem kcol_other (K : List Int) (j j' NB k : Nat) (v : Int) (hj : j < 3) (hj' : j' < 3) (h : j ≠ j') : kcol (K.set (k * 3 + j) v) j' NB = kcol K j' NB := by
  unfold kcol
  apply List.map_congr_left
  intro i _
  rw [getD_setN, if_neg (by omega)]
theorem RefW.set0 {w : World} {m gB gN gW gD L : Nat} {Af : Option Addr} {nf cf : Nat} {a b c d e : Int} {fs : List Flt} {s : ChS} (hC : RefW w m gB gN gW gD L Af nf cf a b c d e fs s) {k : Nat} (hk : (k : Int) < a) (v : Int) : RefW (w.setCell ⟨gN, k, none⟩ (.int .i64 v)) m gB gN gW gD L Af nf cf a b c d e fs { s with K := s.K.set (k * 3 + 0) v } := by
  obtain ⟨⟨cB, NP, NB, RW, hRW, hNP, hNB, hcB, hB, P, hPl, rB, hP⟩, rN, rW, rD, rF, hne, hge, l1, l2, l3, l4⟩ := hC
  have hT := Tch.setm w gN k (.int .i64 v)
  refine ⟨⟨cB, NP, NB, RW, hRW, hNP, hNB, hcB, hB.far hne.1.2.1 _, P, hPl, rB.far hne.2.1.1 _, fun i p hi => (hP i p hi).keep hT.size (hT.far _ (hP i p hi).lt (fun e => (hP i p hi).ns (e ▸ Or.inr (Or.inr (Or.inl rfl)))))⟩, ?_, ?_, ?_, rF.keep hT.size (fun g hg _ hs => hT.far g hg (fun e => hs (e ▸ Or.inr (Or.inr (Or.inl rfl))))), hne, hge, l1, by simpa using l2, l3, l4⟩
  · rw [show s.K.set (k * 3 + 0) v = s.K.set (k * 3 + 0) v from rfl]
    have := rN.set_ (i := k) (by rw [kcol_len]; omega) (.int .i64 v)
    rw [← kcol_set _ 0 _ _ _ (by omega) (by omega) (by omega)] at this
    exact this
  · have := rW.far (p := ⟨gN, k, none⟩) (fun e => hne.2.2.1.1 e.symm) (.int .i64 v)
    rw [← kcol_other s.K 0 1 a.toNat k v (by omega) (by omega) (by omega)] at this
    exact this
  · have := rD.far (p := ⟨gN, k, none⟩) (fun e => hne.2.2.1.2 e.symm) (.int .i64 v)
    rw [← kcol_other s.K 0 2 a.toNat k v (by omega) (by omega) (by omega)] at this
    exact this
theorem RefW.set1 {w : World} {m gB gN gW gD L : Nat} {Af : Option Addr} {nf cf : Nat} {a b c d e : Int} {fs : List Flt} {s : ChS} (hC : RefW w m gB gN gW gD L Af nf cf a b c d e fs s) {k : Nat} (hk : (k : Int) < a) (v : Int) : RefW (w.setCell ⟨gW, k, none⟩ (.int .i64 v)) m gB gN gW gD L Af nf cf a b c d e fs { s with K := s.K.set (k * 3 + 1) v } := by
  obtain ⟨⟨cB, NP, NB, RW, hRW, hNP, hNB, hcB, hB, P, hPl, rB, hP⟩, rN, rW, rD, rF, hne, hge, l1, l2, l3, l4⟩ := hC
  have hT := Tch.setm w gW k (.int .i64 v)
  refine ⟨⟨cB, NP, NB, RW, hRW, hNP, hNB, hcB, hB.far hne.1.2.2.1 _, P, hPl, rB.far hne.2.1.2.1 _, fun i p hi => (hP i p hi).keep hT.size (hT.far _ (hP i p hi).lt (fun e => (hP i p hi).ns (e ▸ Or.inr (Or.inr (Or.inr (Or.inl rfl))))))⟩, ?_, ?_, ?_, rF.keep hT.size (fun g hg _ hs => hT.far g hg (fun e => hs (e ▸ Or.inr (Or.inr (Or.inr (Or.inl rfl)))))), hne, hge, l1, by simpa using l2, l3, l4⟩
  · have := rN.far (p := ⟨gW, k, none⟩) hne.2.2.1.1 (.int .i64 v)
    rw [← kcol_other s.K 1 0 a.toNat k v (by omega) (by omega) (by omega)] at this
    exact this
  · rw [show s.K.set (k * 3 + 1) v = s.K.set (k * 3 + 1) v from rfl]
    have := rW.set_ (i := k) (by rw [kcol_len]; omega) (.int .i64 v)
    rw [← kcol_set _ 1 _ _ _ (by omega) (by omega) (by omega)] at this
    exact this
  · have := rD.far (p := ⟨gW, k, none⟩) (fun e => hne.2.2.2 e.symm) (.int .i64 v)
    rw [← kcol_other s.K 1 2 a.toNat k v (by omega) (by omega) (by omega)] at this
    exact this
theorem RefW.set2 {w : World} {m gB gN gW gD L : Nat} {Af : Option Addr} {nf cf : Nat} {a b c d e : Int} {fs : List Flt} {s : ChS} (hC : RefW w m gB gN gW gD L Af nf cf a b c d e fs s) {k : Nat} (hk : (k : Int) < a) (v : Int) : RefW (w.setCell ⟨gD, k, none⟩ (.int .i64 v)) m gB gN gW gD L Af nf cf a b c d e fs { s with K := s.K.set (k * 3 + 2) v } := by
  obtain ⟨⟨cB, NP, NB, RW, hRW, hNP, hNB, hcB, hB, P, hPl, rB, hP⟩, rN, rW, rD, rF, hne, hge, l1, l2, l3, l4⟩ := hC
  have hT := Tch.setm w gD k (.int .i64 v)
  refine ⟨⟨cB, NP, NB, RW, hRW, hNP, hNB, hcB, hB.far hne.1.2.2.2 _, P, hPl, rB.far hne.2.1.2.2 _, fun i p hi => (hP i p hi).keep hT.size (hT.far _ (hP i p hi).lt (fun e => (hP i p hi).ns (e ▸ Or.inr (Or.inr (Or.inr (Or.inr rfl))))))⟩, ?_, ?_, ?_, rF.keep hT.size (fun g hg _ hs => hT.far g hg (fun e => hs (e ▸ Or.inr (Or.inr (Or.inr (Or.inr rfl)))))), hne, hge, l1, by simpa using l2, l3, l4⟩
  · have := rN.far (p := ⟨gD, k, none⟩) hne.2.2.1.2 (.int .i64 v)
    rw [← kcol_other s.K 2 0 a.toNat k v (by omega) (by omega) (by omega)] at this
    exact this
  · have := rW.far (p := ⟨gD, k, none⟩) hne.2.2.2 (.int .i64 v)
    rw [← kcol_other s.K 2 1 a.toNat k v (by omega) (by omega) (by omega)] at this
    exact this
  · rw [show s.K.set (k * 3 + 2) v = s.K.set (k * 3 + 2) v from rfl]
    have := rD.set_ (i := k) (by rw [kcol_len]; omega) (.int .i64 v)
    rw [← kcol_set _ 2 _ _ _ (by omega) (by omega) (by omega)] at this
    exact this
theorem own_rowC {w : World} {base n : Nat} {t : TypeId} {v : Value} {xs : List Value} (h : w.ownsRow base t 1 v n xs) (hn : 1 ≤ n) : ∃ g c, v = .slice (some ⟨g, 0, none⟩) n c ∧ RowT w g t xs ∧ base ≤ g ∧ n ≤ c ∧ c ≤ maxLen := by
  obtain ⟨hl, h'⟩ := h
  rcases h' with ⟨_, h0⟩ | ⟨g, cap, cur, rfl, hb, hh, hnc, hm, hsz, ht⟩
  · rw [h0] at hl
    simp at hl
    omega
  · refine ⟨g, cap, rfl, ⟨cur.toList.drop (n * 1), ?_⟩, hb, hnc, hm⟩
    unfold Blk
    rw [← ht, List.take_append_drop]
    exact hh
theorem putX_getD {X vs : List Nat} {F : Nat} (h : F + vs.length ≤ X.length) (j : Nat) : (putX X F vs).getD j 0 = if j < F then X.getD j 0 else if j < F + vs.length then vs.getD (j - F) 0 else X.getD j 0 := by
  simp only [List.getD_eq_getElem?_getD]
  rw [putX_get h]
  split
  · rfl
  · split <;> rfl
theorem RefW.setPage {w : World} {m gB gN gW gD L : Nat} {Af : Option Addr} {nf cf : Nat} {a b c d e : Int} {fs : List Flt} {s : ChS} (hC : RefW w m gB gN gW gD L Af nf cf a b c d e fs s) {N RW g9 c9 : Nat} {vs : List Nat} (hR : RowT w g9 5 ((vs ++ (s.pageOf N RW).drop vs.length).map byteV)) (hg9 : L ≤ g9) (hns : ¬ rfB m gB gN gW gD g9) (hc1 : RW ≤ c9) (hc2 : c9 ≤ maxLen) (hr : (RW : Int) = c + 16) (hv : vs.length ≤ RW) (hN : (N : Int) < a * b) (hf : N * RW + RW ≤ s.X.length) : RefW (w.setCell ⟨gB, N, none⟩ (.slice (some ⟨g9, 0, none⟩) RW c9)) m gB gN gW gD L Af nf cf a b c d e fs { s with X := putX s.X (N * RW) vs } := by
  obtain ⟨⟨cB, NP, NB, RW', hRW, hNP, hNB, hcB, hB, P, hPl, rB, hP⟩, rN, rW, rD, rF, hne, hge, l1, l2, l3, l4⟩ := hC
  have e : RW' = RW := by omega
  subst e
  have hT := Tch.setm w gB N (.slice (some ⟨g9, 0, none⟩) RW' c9)
  have hlt : N < P.length := by omega
  refine ⟨⟨cB, NP, NB, RW', hRW, hNP, hNB, hcB, hB.far hne.1.1 _, P.set N (g9, c9), by simpa using hPl, ?_, ?_⟩, rN.far (fun e => hne.2.1.1 e.symm) _, rW.far (fun e => hne.2.1.2.1 e.symm) _, rD.far (fun e => hne.2.1.2.2 e.symm) _, rF.keep hT.size (fun g hg _ hs => hT.far g hg (fun e => hs (e ▸ Or.inr (Or.inl rfl)))), hne, hge, by rw [putX_len (by omega)]; exact l1, l2, l3, l4⟩
  · have := rB.set_ (i := N) (by simpa using hlt) (.slice (some ⟨g9, 0, none⟩) RW' c9)
    rw [List.map_set]
    exact this
  · intro i p hi
    rw [List.getElem?_set] at hi
    by_cases e : N = i
    · subst e
      rw [if_pos rfl, if_pos hlt] at hi
      obtain rfl := Option.some.inj hi
      have hgB : g9 ≠ gB := fun e => hns (Or.inr (Or.inl e))
      refine ⟨by have := hR.lt; have := hT.size; omega, hg9, hns, hc1, hc2, fun j hj => ?_⟩
      refine (RowT.far hR hgB _).cell_ ?_
      rw [putX_getD (by omega), if_neg (by omega), List.getElem?_map]
      by_cases hjv : j < vs.length
      · rw [if_pos (by omega), List.getElem?_append_left hjv, show N * RW' + j - N * RW' = j by omega, List.getD_eq_getElem?_getD, List.getElem?_eq_getElem hjv]
        rfl
      · rw [if_neg (by omega), List.getElem?_append_right (by omega), List.getElem?_drop, show vs.length + (j - vs.length) = j by omega]
        unfold ChS.pageOf
        rw [List.getElem?_take, if_pos hj, List.getElem?_drop, List.getD_eq_getElem?_getD, List.getElem?_eq_getElem (by omega)]
        rfl
    · rw [if_neg e] at hi
      have hg := (hP i p hi).keep hT.size (hT.far _ (hP i p hi).lt (fun e => (hP i p hi).ns (e ▸ Or.inr (Or.inl rfl))))
      refine ⟨hg.lt, hg.ge, hg.ns, hg.cap, hg.cap2, fun j hj => ?_⟩
      rw [hg.cell j hj, putX_getD (by omega)]
      congr 2
      rcases Nat.lt_or_gt_of_ne e with h | h
      · have : (N + 1) * RW' ≤ i * RW' := Nat.mul_le_mul_right _ h
        rw [Nat.succ_mul] at this
        rw [if_neg (by omega), if_neg (by omega)]
      · have : (i + 1) * RW' ≤ N * RW' := Nat.mul_le_mul_right _ h
        rw [Nat.succ_mul] at this
        rw [if_pos (by omega)]
theorem rread_all (m gB gN gW gD L : Nat) (Af : Option Addr) (nf cf : Nat) (a b c d e : Int) (fs : List Flt) (x y : Int) (n : Int) (w : World) (s : ChS) (hC : RefW w m gB gN gW gD L Af nf cf a b c d e fs s) (hs : Fine s n) (hn : n ≤ 900000000) (hwt : s.Wt) :
    Calls Try.prog 40 #[.pointer (some ⟨m, 0, none⟩), .agg #[.int .i64 x, .int .i64 y]] w fun e' w' => (∃ A c', e' = .returned (.tuple #[.slice A (s.readB a b c x y).length c', .int .i64 (s.readZ a b x y)]) ∧ (s.readB a b c x y = [] ∧ A = none ∧ c' = 0 ∨ ∃ g, A = some ⟨g, 0, none⟩ ∧ RowT w' g 5 ((s.readB a b c x y).map byteV) ∧ w.heap.size ≤ g)) ∧ RefW w' m gB gN gW gD L Af nf cf a b c d e fs (s.readS a b x y) ∧ Tch (fun g => g = m) w w' := by
  cases ho : s.on
  · have e1 : s.readZ a b x y = 9 := by simp [ChS.readZ, ho]
    have e2 : s.readS a b x y = s := by simp [ChS.readS, ho]
    have e3 : s.readB a b c x y = [] := by simp [ChS.readB, ho]
    rw [e1, e2, e3]
    refine (rread_off m gB gN gW gD L Af nf cf a b c d e fs x y w s hC ho).mono ?_
    rintro e' w' ⟨rfl, hb⟩
    exact ⟨⟨none, 0, rfl, Or.inl ⟨rfl, rfl, rfl⟩⟩, hC.below hb, Tch.of_below hb⟩
  cases ht : thereB a b x y
  · have e1 : s.readZ a b x y = 2 := by simp [ChS.readZ, ho, ht]
    have e2 : s.readS a b x y = s := by simp [ChS.readS, ht]
    have e3 : s.readB a b c x y = [] := by simp [ChS.readB, ht]
    rw [e1, e2, e3]
    refine (rread_arg m gB gN gW gD L Af nf cf a b c d e fs x y w s hC ho (Lib.hid ht)).mono ?_
    rintro e' w' ⟨rfl, hb⟩
    exact ⟨⟨none, 0, rfl, Or.inl ⟨rfl, rfl, rfl⟩⟩, hC.below hb, Tch.of_below hb⟩
  have e2 : s.readS a b x y = s.tick := by simp [ChS.readS, ht, ho]
  rw [e2]
  cases hc : s.cutB
  · obtain ⟨k, l, hx, hy, hk, hl⟩ := there_nat ht
    obtain ⟨N, RW, hnum, hrw, hfit, r1, r2, hN2, hNN, hNab⟩ := rpage_ok hC hk hl
    have hN' : (x * b + y).toNat = N := by rw [hx, hy, ← hNN]; omega
    have hr' : (c + 16).toNat = RW := by omega
    have e1 : s.readZ a b x y = 0 := by simp [ChS.readZ, ho, ht, hc]
    have e3 : s.readB a b c x y = s.pageOf N RW := by
      unfold ChS.readB
      rw [ho, ht, hc, hN', hr']
      rfl
    have hlen : (s.pageOf N RW).length = RW := by simp [ChS.pageOf]; omega
    rw [e1, e3, hlen]
    subst hx hy
    refine (rread_ok m gB gN gW gD L Af nf cf a b c d e fs k l N RW n w s hC hs.bnd (by omega) hwt ho (Lib.hid hc) hk hl (Lib.hid hnum) hrw hfit r1 r2 hN2 hNab).mono ?_
    rintro e' w' ⟨⟨g', c', rfl, hR, hg⟩, hC', hT⟩
    exact ⟨⟨_, c', rfl, Or.inr ⟨g', rfl, hR, hg⟩⟩, hC', hT⟩
  · have e1 : s.readZ a b x y = 9 := by simp [ChS.readZ, ho, ht, hc]
    have e3 : s.readB a b c x y = [] := by simp [ChS.readB, ho, ht, hc]
    rw [e1, e3]
    refine (rread_cut m gB gN gW gD L Af nf cf a b c d e fs x y n w s hC hs.bnd (by omega) hwt ho (Lib.hid ht) (Lib.hid hc)).mono ?_
    rintro e' w' ⟨rfl, hC', hT⟩
    exact ⟨⟨none, 0, rfl, Or.inl ⟨rfl, rfl, rfl⟩⟩, hC', hT⟩
end Go.Proofs.Ytplniojeaodjiaa
