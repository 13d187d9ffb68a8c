/- New of a chip with faults. -/
import Derived.Test.YtplniojeaodjiaaChV
namespace Go.Proofs.Ytplniojeaodjiaa
open Go.ChangeShapes Go.WideShapes Go.ChangeAt Go.RowKit
set_option linter.unusedSimpArgs false
set_option linter.unusedVariables false

def fltV (f : Flt) : List Value := [.int .i64 f.blk, .bool f.fac, .int .i64 f.aft]
def flatF : List Flt → List Value
  | [] => []
  | f :: fs => fltV f ++ flatF fs
theorem flatF_len : ∀ fs : List Flt, (flatF fs).length = fs.length * 3
  | [] => rfl
  | f :: fs => by
    show (fltV f ++ flatF fs).length = _
    rw [List.length_append, flatF_len fs]
    show 3 + _ = (fs.length + 1) * 3
    omega
theorem flatF_at : ∀ (fs : List Flt) (k : Nat) (f : Flt), fs[k]? = some f → (flatF fs)[k * 3]? = some (.int .i64 f.blk) ∧ (flatF fs)[k * 3 + 1]? = some (.bool f.fac) ∧ (flatF fs)[k * 3 + 2]? = some (.int .i64 f.aft)
  | [], _, _, h => by simp at h
  | g :: fs, 0, f, h => by
    obtain rfl : g = f := by simpa using h
    exact ⟨rfl, rfl, rfl⟩
  | g :: fs, k + 1, f, h => by
    have q := flatF_at fs k f (by simpa using h)
    have e : ∀ j, (flatF (g :: fs))[j + 3]? = (flatF fs)[j]? := fun j => by
      show (fltV g ++ flatF fs)[j + 3]? = _
      rw [List.getElem?_append_right (by simp [fltV])]
      simp [fltV]
    rw [show (k + 1) * 3 = k * 3 + 3 by omega, show k * 3 + 3 + 1 = k * 3 + 1 + 3 by omega, show k * 3 + 3 + 2 = k * 3 + 2 + 3 by omega, e, e, e]
    exact q
theorem flatF_rd {w : World} {g : Nat} : ∀ (fs : List Flt) (off : Nat), (∀ k f, fs[k]? = some f → w.cell? ⟨g, off + k * 3, none⟩ = some (.int .i64 f.blk) ∧ w.cell? ⟨g, off + k * 3 + 1, none⟩ = some (.bool f.fac) ∧ w.cell? ⟨g, off + k * 3 + 2, none⟩ = some (.int .i64 f.aft)) → ∀ j u, (flatF fs)[j]? = some u → w.cell? ⟨g, off + j, none⟩ = some u
  | [], _, _, _, _, hu => by simp [flatF] at hu
  | f :: fs, off, h, j, u, hu => by
    obtain ⟨h0, h1, h2⟩ := h 0 f rfl
    match j, hu with
    | 0, hu =>
      obtain rfl : Value.int .i64 f.blk = u := by simpa [flatF, fltV] using hu
      exact h0
    | 1, hu =>
      obtain rfl : Value.bool f.fac = u := by simpa [flatF, fltV] using hu
      exact h1
    | 2, hu =>
      obtain rfl : Value.int .i64 f.aft = u := by simpa [flatF, fltV] using hu
      exact h2
    | j + 3, hu =>
      have e : (flatF (f :: fs))[j + 3]? = (flatF fs)[j]? := by
        show (fltV f ++ flatF fs)[j + 3]? = _
        rw [List.getElem?_append_right (by simp [fltV])]
        simp [fltV]
      rw [e] at hu
      have q := flatF_rd fs (off + 3) (fun k f' hk => by
        have := h (k + 1) f' (by simpa using hk)
        rw [show off + (k + 1) * 3 = off + 3 + k * 3 by omega] at this
        exact this) j u hu
      rw [show off + (j + 3) = off + 3 + j by omega]
      exact q
theorem flatF_one : ∀ fs : List Flt, ∀ u ∈ flatF fs, u.oneCell' = true
  | [], u, h => by simp [flatF] at h
  | f :: fs, u, h => by
    rcases List.mem_append.1 (show u ∈ fltV f ++ flatF fs from h) with h | h
    · simp only [fltV, List.mem_cons, List.not_mem_nil, or_false] at h
      rcases h with rfl | rfl | rfl <;> rfl
    · exact flatF_one fs u h
/-- A row of faults of one's own. -/
def FR (w : World) (A : Option Addr) (fs : List Flt) : Prop := fs = [] ∨ ∃ g, A = some ⟨g, 0, none⟩ ∧ RowT w g 61 (flatF fs)
def FNe (A : Option Addr) (fs : List Flt) (k : Nat) : Prop := fs = [] ∨ ∃ g, A = some ⟨g, 0, none⟩ ∧ g ≠ k
def FGe (A : Option Addr) (fs : List Flt) (k : Nat) : Prop := fs = [] ∨ ∃ g, A = some ⟨g, 0, none⟩ ∧ k ≤ g
theorem FR.below_ {w w' : World} {A : Option Addr} {fs : List Flt} (h : FR w A fs) (hb : Below w.heap.size w w') : FR w' A fs := by
  rcases h with h | ⟨g, e, h⟩
  · exact Or.inl h
  · exact Or.inr ⟨g, e, h.below hb⟩
theorem FR.ne {w : World} {A : Option Addr} {fs : List Flt} (h : FR w A fs) {k : Nat} (hk : w.heap.size ≤ k) : FNe A fs k := by
  rcases h with h | ⟨g, e, h⟩
  · exact Or.inl h
  · exact Or.inr ⟨g, e, by have := h.lt; omega⟩
theorem FNe.fresh {A : Option Addr} {fs : List Flt} {n k : Nat} (h : FGe A fs n) (hk : k < n) : FNe A fs k := by
  rcases h with h | ⟨g, e, h⟩
  · exact Or.inl h
  · exact Or.inr ⟨g, e, by omega⟩
theorem FR.at_ {w : World} {A : Option Addr} {fs : List Flt} (h : FR w A fs) {m gx gb : Nat} (h1 : FNe A fs m) (h2 : FNe A fs gx) (h3 : FNe A fs gb) : FltAt w A fs m gx gb := by
  rcases h with h | ⟨g, e, h⟩
  · exact Or.inl h
  rcases h1 with h1 | ⟨g1, e1, h1⟩
  · exact Or.inl h1
  rcases h2 with h2 | ⟨g2, e2, h2⟩
  · exact Or.inl h2
  rcases h3 with h3 | ⟨g3, e3, h3⟩
  · exact Or.inl h3
  subst e
  cases e1
  cases e2
  cases e3
  refine Or.inr ⟨g, 0, rfl, h.lt, h1, h2, h3, fun k f hf => ?_⟩
  obtain ⟨q0, q1, q2⟩ := flatF_at fs k f hf
  rw [Nat.zero_add]
  exact ⟨h.cell_ q0, h.cell_ q1, h.cell_ q2⟩
theorem infoF : (Try.prog.info? 61).map (fun i => (i.zero, i.size, i.bytes)) = some (some (.agg #[.int .i64 0, .bool false, .int .i64 0]), 3, 24) := by kernel_rfl
theorem slF_not_nil (a : Addr) (n c : Nat) (w : World) : (binOp BinOp.eql 24 (.slice (some a) n c) (.slice none 0 0)).run Try.prog w = .ok (.bool false) w := by kernel_rfl
theorem own_emptyF (w : World) (e : TypeId) : (w.alloc (.cells #[] e)).ownsRow w.heap.size e 3 (.slice (some ⟨w.heap.size, 0, none⟩) 0 0) 0 [] :=
  ⟨by simp, Or.inr ⟨w.heap.size, 0, #[], rfl, Nat.le_refl _, heap_alloc_new w _, by omega, by unfold maxLen; omega, by simp, by simp⟩⟩
theorem own_rowF {w : World} {base n : Nat} {t : TypeId} {v : Value} {xs : List Value} (h : w.ownsRow base t 3 v n xs) : ∃ A c, v = .slice A n c ∧ (n = 0 ∨ ∃ g, A = some ⟨g, 0, none⟩ ∧ RowT w g t xs ∧ base ≤ g) := by
  obtain ⟨hl, h'⟩ := h
  rcases h' with ⟨hv, h0⟩ | ⟨g, cap, cur, rfl, hb, hh, hnc, _, hsz, ht⟩
  · rw [h0] at hl
    simp at hl
    have hn : n = 0 := by omega
    subst hn
    exact ⟨none, 0, hv, Or.inl rfl⟩
  · refine ⟨some ⟨g, 0, none⟩, cap, rfl, Or.inr ⟨g, rfl, ⟨cur.toList.drop (n * 3), ?_⟩, hb⟩⟩
    unfold Blk
    rw [← ht, List.take_append_drop]
    exact hh
theorem fclone_any (fs : List Flt) (A : Option Addr) (c : Nat) (w : World) (hs : SlF w w.heap.size A fs) (hlen : fs.length ≤ 100000) :
    Calls Try.prog 35 #[.slice A fs.length c] w fun e' w' => (∃ A' c', e' = .returned (.slice A' fs.length c') ∧ FR w' A' fs ∧ FGe A' fs w.heap.size) ∧ Below w.heap.size w w' := by
  rcases A with _ | ⟨g, o, sp⟩
  · obtain rfl : fs = [] := by
      rcases hs with h | ⟨g, off, e, _⟩
      · exact h
      · cases e
    have hnil : (binOp BinOp.eql 24 (.slice none 0 c) (.slice none 0 0)).run Try.prog w = .ok (.bool true) w := by kernel_rfl
    go_enter Try.func35, Try.ntmps35
    go_wp2
    go_ret
    exact ⟨⟨none, 0, rfl, Or.inl rfl, Or.inl rfl⟩, Below.refl _ _⟩
  · have hnil := slF_not_nil ⟨g, o, sp⟩ fs.length c w
    have HR : Rd (w.alloc (.cells #[] 61)) (some ⟨g, o, sp⟩) fs.length 3 (flatF fs) := by
      refine ⟨flatF_len fs, ?_⟩
      rcases hs with h | ⟨g', off, e, hlt, hc⟩
      · left
        rw [h]
        rfl
      · cases e
        refine Or.inr ⟨g, o, rfl, fun j u hu => ?_⟩
        refine (Below.cell (p := ⟨g, o + j, none⟩) ((Below.refl w.heap.size w).alloc (Nat.le_refl _) (.cells #[] 61)) hlt).trans ?_
        exact flatF_rd fs o hc j u hu
    clear hs
    go_enter Try.func35, Try.ntmps35
    go_upto_region 3 with fail
    refine wp_region_lit ?_
    refine wpList_plain rfl (fun K hK => ?_)
    go_simp
    refine hK _ _ ?_
    clear hK K
    try simp only [Act.put, List.setIfInBounds_toArray, List.set_cons_zero, List.set_cons_succ]
    refine wpList_plain rfl (fun K hK => ?_)
    go_simp
    refine hK _ _ ?_
    clear hK K
    try simp only [Act.put, List.setIfInBounds_toArray, List.set_cons_zero, List.set_cons_succ]
    obtain ⟨ti0, hi, hz0, hz1, hz2⟩ := info_parts infoF
    refine wpList_app _ rfl (.tmp 5) (.tmp 6) _ rfl w.heap.size 61 ti0 _ 3 24 Try.underlying24 hi hz0 hz1 hz2 rfl (by decide) (.slice (some ⟨w.heap.size, 0, none⟩) 0 0) 0 [] rfl (own_emptyF w _) (some ⟨g, o, sp⟩) fs.length c (flatF fs) rfl HR (flatF_one fs) (by unfold maxLen; omega) (by omega) (by simp) ?_
    intro v' w' ho' hg' hv'
    clear hi hz0 hz1 hz2
    rw [Nat.zero_add, List.nil_append] at ho'
    obtain ⟨A', c', rfl, hR'⟩ := own_rowF ho'
    have HG := Lib.hid hg'
    have HRR := Lib.hid hR'
    clear hg' hR' ho' hv' hnil
    try simp only [Act.put, List.setIfInBounds_toArray, List.set_cons_zero, List.set_cons_succ]
    go_wp2_with fail
    go_ret
    have hB : Below w.heap.size w w' := ((Below.refl _ _).alloc (Nat.le_refl _) _).grown HG.out (by simp) (fun g' hg'' => by simp [Value.ownBlock] at hg''; omega)
    refine ⟨⟨A', c', rfl, ?_, ?_⟩, hB⟩
    · rcases HRR.out with h | ⟨g', e, h, _⟩
      · exact Or.inl (List.eq_nil_of_length_eq_zero h)
      · exact Or.inr ⟨g', e, h⟩
    · rcases HRR.out with h | ⟨g', e, _, h⟩
      · exact Or.inl (List.eq_nil_of_length_eq_zero h)
      · exact Or.inr ⟨g', e, h⟩
theorem box_chipF (a b c d e : Int) (AF : Option Addr) (nf cf gx NX gb NB : Nat) (w : World) : (Instr.box 71 (.agg #[.int .i64 a, .int .i64 b, .int .i64 c, .int .i64 d, .int .i64 e, .slice AF nf cf, .slice (some ⟨gx, 0, none⟩) NX NX, .slice (some ⟨gb, 0, none⟩) NB NB, .int .i64 0, .int .i64 0, .bool true, .bool false, .int .i64 0, .int .i64 0, .int .i64 0, .int .u8 0])).run Try.prog w = .ok (.pointer (some ⟨w.heap.size, 0, none⟩)) (w.alloc (.cells #[.int .i64 a, .int .i64 b, .int .i64 c, .int .i64 d, .int .i64 e, .slice AF nf cf, .slice (some ⟨gx, 0, none⟩) NX NX, .slice (some ⟨gb, 0, none⟩) NB NB, .int .i64 0, .int .i64 0, .bool true, .bool false, .int .i64 0, .int .i64 0, .int .i64 0, .int .u8 0] 71)) := by kernel_rfl
theorem wp_boxF {w : World} {o : Oper} {a' : Act} {K : Act → World → Prop} {Q : Exit → Act → World → Prop} (x : Operand) (hop : o.op = Op.box 71 x)
    {a b c d e : Int} {AF : Option Addr} {nf cf gx NX gb NB : Nat} (hx : a'.eval x = .agg #[.int .i64 a, .int .i64 b, .int .i64 c, .int .i64 d, .int .i64 e, .slice AF nf cf, .slice (some ⟨gx, 0, none⟩) NX NX, .slice (some ⟨gb, 0, none⟩) NB NB, .int .i64 0, .int .i64 0, .bool true, .bool false, .int .i64 0, .int .i64 0, .int .i64 0, .int .u8 0])
    (hK : ∀ w' m, Blk w' m 71 #[.int .i64 a, .int .i64 b, .int .i64 c, .int .i64 d, .int .i64 e, .slice AF nf cf, .slice (some ⟨gx, 0, none⟩) NX NX, .slice (some ⟨gb, 0, none⟩) NB NB, .int .i64 0, .int .i64 0, .bool true, .bool false, .int .i64 0, .int .i64 0, .int .i64 0, .int .u8 0] → w.heap.size ≤ m → Below w.heap.size w w' → K (a'.put o.dst (.pointer (some ⟨m, 0, none⟩))) w') : Oper.wp Try.prog o a' w K Q := by
  have hrun := box_chipF a b c d e AF nf cf gx NX gb NB w
  unfold Oper.wp
  simp [execOp, hop, hx, hrun, Result.andThen]
  exact hK _ _ (Blk.new_ _ _ _) (Nat.le_refl _) ((Below.refl _ _).alloc (Nat.le_refl _) _)
theorem pmayF_b (a b c d e : Int) (fs : List Flt) (A : Option Addr) (c0 : Nat) (T : Bool) (w : World) (hs : SlF w w.heap.size A fs) (hc0 : fs.length ≤ c0) (hc1 : c0 ≤ maxLen) (h : Hid (planMay a b c d e fs = T)) : Calls Try.prog 33 #[.agg #[.int .i64 a, .int .i64 b, .int .i64 c, .int .i64 d, .int .i64 e], .slice A fs.length c0] w fun e' w' => e' = .returned (.bool T) ∧ Below w.heap.size w w' := by
  have := pMay_any a b c d e fs A c0 w hs hc0 hc1
  rwa [h.out] at this
theorem newF_no (a b c d e : Int) (fs : List Flt) (A : Option Addr) (c0 : Nat) (w : World) (hs : SlF w w.heap.size A fs) (hc0 : fs.length ≤ c0) (hc1 : c0 ≤ maxLen) (HP : Hid (planMay a b c d e fs = false)) : Calls Try.prog 11 #[.agg #[.int .i64 a, .int .i64 b, .int .i64 c, .int .i64 d, .int .i64 e], .slice A fs.length c0] w fun e' w' => e' = .returned (.pointer none) ∧ Below w.heap.size w w' := by
  have HB0 : Below w.heap.size w (w.alloc (.cells #[.int .i64 a, .int .i64 b, .int .i64 c, .int .i64 d, .int .i64 e] 23)) := (Below.refl _ _).alloc (Nat.le_refl _) _
  have HSF := hs.next HB0
  go_enter Try.func11, Try.ntmps11
  go_wp2_with (go_at_call 33; go_loud (((with_reducible refine (pmayF_b _ _ _ _ _ fs _ _ _ _ HSF hc0 hc1 HP).mono ?_); rintro e' wN ⟨rfl, hb⟩; replace HB0 := btr HB0 HB0.size hb)))
  go_ret
  exact ⟨rfl, HB0⟩
set_option maxRecDepth 100000 in
set_option maxHeartbeats 8000000 in
theorem newF_yes (a b c d e : Int) (fs : List Flt) (A : Option Addr) (c0 : Nat) (NX NB : Nat) (w : World) (hs : SlF w w.heap.size A fs) (hc0 : fs.length ≤ c0) (hc1 : c0 ≤ maxLen) (hfl : fs.length ≤ 100000) (HP : Hid (planMay a b c d e fs = true)) (hNX : (NX : Int) = a * b * (c + 16)) (hNB : (NB : Int) = a) (n1 : 1 ≤ NX) (n2 : NX ≤ 100000) (n3 : NB ≤ 1000) :
    Calls Try.prog 11 #[.agg #[.int .i64 a, .int .i64 b, .int .i64 c, .int .i64 d, .int .i64 e], .slice A fs.length c0] w fun e' w' => (∃ m gx gb AF cf, e' = .returned (.pointer (some ⟨m, 0, none⟩)) ∧ ChipW w' m gx gb AF fs.length cf a b c d e fs (ChS.new NX NB) ∧ w.heap.size ≤ m ∧ w.heap.size ≤ gx ∧ w.heap.size ≤ gb) ∧ Below w.heap.size w w' := by
  have HM : Hid (mayB a b c d e = true) := Lib.hid (planMay_bd HP.out).1
  obtain ⟨q1, q2, q3, q4, q5, q6, -⟩ := may_bd HM.out
  obtain ⟨M, hM⟩ : ∃ M, a * b = M := ⟨_, rfl⟩
  have hMb : 32 ≤ M ∧ M ≤ 160 := by
    have := mul_bd (x := a) (y := b) (lo := 8) (hi := 20) q1 q2 q3 q4 (by omega) (by omega)
    omega
  have hNX' : M * (c + 16) = (NX : Int) := by rw [← hM]; exact hNX.symm
  have hw1 : IntKind.i64.wrap M = M := wrapS _ (by omega) (by omega)
  have hw2 : IntKind.i64.wrap (NX : Int) = (NX : Int) := wrapS _ (by omega) (by omega)
  have HB0 : Below w.heap.size w (w.alloc (.cells #[.int .i64 a, .int .i64 b, .int .i64 c, .int .i64 d, .int .i64 e] 23)) := (Below.refl _ _).alloc (Nat.le_refl _) _
  have HSF := hs.next HB0
  have G1 : Blk (w.alloc (.cells #[.int .i64 a, .int .i64 b, .int .i64 c, .int .i64 d, .int .i64 e] 23)) w.heap.size 23 #[.int .i64 a, .int .i64 b, .int .i64 c, .int .i64 d, .int .i64 e] := Blk.new_ _ _ _
  have HY := cells5 G1
  have HLX : Hid (NX = (a * b * (c + 16)).toNat) := Lib.hid (by rw [← hNX]; rfl)
  have HLK : Hid (3 * NB = 3 * a.toNat) := Lib.hid (by omega)
  clear hNX q1 q2 q3 q4 q5 q6 hMb hs
  go_enter Try.func11, Try.ntmps11
  go_upto_region 3 with (go_at_call 33; go_loud (((with_reducible refine (pmayF_b _ _ _ _ _ fs _ _ _ _ HSF hc0 hc1 HP).mono ?_); rintro e' wN ⟨rfl, hb⟩; replace HSF := HSF.next hb; replace G1 := G1.below hb G1.lt; replace HB0 := btr HB0 HB0.size hb; clear HY; have HY := cells5 G1)))
  clear hc0 hc1
  refine wp_region_noPanic ?_
  refine wp_region_held_drew (S := (fun w' => w'.cell? ⟨w.heap.size, 0, none⟩ = some (.int .i64 a) ∧ w'.cell? ⟨w.heap.size, 1, none⟩ = some (.int .i64 b) ∧ w'.cell? ⟨w.heap.size, 2, none⟩ = some (.int .i64 c) ∧ w'.cell? ⟨w.heap.size, 3, none⟩ = some (.int .i64 d) ∧ w'.cell? ⟨w.heap.size, 4, none⟩ = some (.int .i64 e))) (by kernel_rfl) ?_ (fun hHeld => ?_)
  · (first | exact HY | assumption)
  refine wpAnyH_take (i := 0) (oi := { dst := some 10, op := Op.fieldAddr 23 (Operand.tmp 2) 0, type := 0, pos := "chip.go:42", after := #[], guard := none }) (v := ?_) rfl (by kernel_rfl) (by kernel_rfl) (by kernel_rfl) (fun _ _ _ h => h) (Or.inl ⟨by rfl, ?_⟩) (by assumption) ?_
  rotate_left
  · (intro wS hSw; (try dsimp only at hSw); go_simp; (try with_reducible rfl))
  try simp only [Act.put, List.setIfInBounds_toArray, List.set_cons_zero, List.set_cons_succ]
  refine wpAnyH_take (i := 1) (oi := { dst := some 11, op := Op.load 3 (Operand.tmp 10), type := 3, pos := "chip.go:42", after := #[{ on := 0, ground := Ground.data }], guard := none }) (v := ?_) rfl (by kernel_rfl) (by kernel_rfl) (by kernel_rfl) (fun _ _ _ h => h) (Or.inl ⟨by rfl, ?_⟩) (by assumption) ?_
  rotate_left
  · (intro wS hSw; (try dsimp only at hSw); go_simp; (try with_reducible rfl))
  try simp only [Act.put, List.setIfInBounds_toArray, List.set_cons_zero, List.set_cons_succ]
  refine wpAnyH_take (i := 2) (oi := { dst := some 12, op := Op.fieldAddr 23 (Operand.tmp 2) 1, type := 0, pos := "chip.go:42", after := #[], guard := none }) (v := ?_) rfl (by kernel_rfl) (by kernel_rfl) (by kernel_rfl) (fun _ _ _ h => h) (Or.inl ⟨by rfl, ?_⟩) (by assumption) ?_
  rotate_left
  · (intro wS hSw; (try dsimp only at hSw); go_simp; (try with_reducible rfl))
  try simp only [Act.put, List.setIfInBounds_toArray, List.set_cons_zero, List.set_cons_succ]
  refine wpAnyH_take (i := 3) (oi := { dst := some 13, op := Op.load 3 (Operand.tmp 12), type := 3, pos := "chip.go:42", after := #[{ on := 2, ground := Ground.data }], guard := none }) (v := ?_) rfl (by kernel_rfl) (by kernel_rfl) (by kernel_rfl) (fun _ _ _ h => h) (Or.inl ⟨by rfl, ?_⟩) (by assumption) ?_
  rotate_left
  · (intro wS hSw; (try dsimp only at hSw); go_simp; (try with_reducible rfl))
  try simp only [Act.put, List.setIfInBounds_toArray, List.set_cons_zero, List.set_cons_succ]
  refine wpAnyH_take (i := 4) (oi := { dst := some 14, op := Op.binOp BinOp.mul 3 (Operand.tmp 11) (Operand.tmp 13) 3, type := 3, pos := "chip.go:42", after := #[{ on := 1, ground := Ground.data }, { on := 3, ground := Ground.data }], guard := none }) (v := ?_) rfl (by kernel_rfl) (by kernel_rfl) (by kernel_rfl) (fun _ _ _ h => h) (Or.inl ⟨by rfl, ?_⟩) (by assumption) ?_
  rotate_left
  · (intro wS hSw; (try dsimp only at hSw); go_simp; (try with_reducible rfl))
  try simp only [Act.put, List.setIfInBounds_toArray, List.set_cons_zero, List.set_cons_succ]
  refine wpAnyH_take (i := 5) (oi := { dst := some 15, op := Op.load 23 (Operand.tmp 2), type := 23, pos := "chip.go:42", after := #[], guard := none }) (v := ?_) rfl (by kernel_rfl) (by kernel_rfl) (by kernel_rfl) (fun _ _ _ h => h) (Or.inl ⟨by rfl, ?_⟩) (by assumption) ?_
  rotate_left
  · (intro wS hSw; (try dsimp only at hSw); go_simp; (try with_reducible rfl))
  try simp only [Act.put, List.setIfInBounds_toArray, List.set_cons_zero, List.set_cons_succ]
  refine wpAnyH_ready (rs := [6]) (by kernel_rfl) (by simp) ?_
  refine AllReadyH.cons (o := { dst := some 16, op := Op.call { callee := Callee.value (Operand.func 34), args := #[Operand.tmp 15], argTypes := #[23] }, type := 3, pos := "chip.go:42", after := #[{ on := 5, ground := Ground.data }], guard := none }) rfl (fun K hK => ?_) AllReadyH.nil
  go_simp
  (go_at_call 34; go_loud (((with_reducible refine (raw_b _ _ _ _ _ _ HM).mono ?_); rintro e' wN ⟨rfl, hb⟩; (try have hb := undrew hb); replace HSF := HSF.next hb; replace G1 := G1.below hb G1.lt; replace HB0 := btr HB0 HB0.size hb; clear HY; have HY := cells5 G1)))
  go_wp2_with fail
  refine hK.out _ _ ?_ (fun hNew => ?_)
  · (first | exact HY | assumption)
  clear hK K hHeld
  have hHeld := hNew
  clear hNew
  try simp only [Act.put, List.setIfInBounds_toArray, List.set_cons_zero, List.set_cons_succ]
  refine wpAnyH_take (i := 7) (oi := { dst := some 17, op := Op.binOp BinOp.mul 3 (Operand.tmp 14) (Operand.tmp 16) 3, type := 3, pos := "chip.go:42", after := #[{ on := 4, ground := Ground.data }, { on := 6, ground := Ground.data }], guard := none }) (v := ?_) rfl (by kernel_rfl) (by kernel_rfl) (by kernel_rfl) (fun _ _ _ h => h) (Or.inl ⟨by rfl, ?_⟩) (by assumption) ?_
  rotate_left
  · (intro wS hSw; (try dsimp only at hSw); go_simp; (try with_reducible rfl))
  try simp only [Act.put, List.setIfInBounds_toArray, List.set_cons_zero, List.set_cons_succ]
  refine wpAnyH_take (i := 8) (oi := { dst := some 5, op := Op.assign (Operand.tmp 17), type := 3, pos := "chip.go:42", after := #[{ on := 7, ground := Ground.data }, { on := 6, ground := Ground.chain }, { on := 0, ground := Ground.phase }, { on := 1, ground := Ground.phase }, { on := 2, ground := Ground.phase }, { on := 3, ground := Ground.phase }, { on := 4, ground := Ground.phase }, { on := 5, ground := Ground.phase }, { on := 6, ground := Ground.phase }, { on := 7, ground := Ground.phase }], guard := none }) (v := ?_) rfl (by kernel_rfl) (by kernel_rfl) (by kernel_rfl) (fun _ _ _ h => h) (Or.inl ⟨by rfl, ?_⟩) (by assumption) ?_
  rotate_left
  · (intro wS hSw; (try dsimp only at hSw); go_simp; (try with_reducible rfl))
  try simp only [Act.put, List.setIfInBounds_toArray, List.set_cons_zero, List.set_cons_succ]
  refine wpAnyH_done (by kernel_rfl) ?_ _
  refine NoPanic.normal ?_
  go_upto_region 4 with fail
  replace G1 : Blk wN.drew w.heap.size 23 #[.int .i64 a, .int .i64 b, .int .i64 c, .int .i64 d, .int .i64 e] := G1
  replace HB0 := HB0.drew
  replace HSF : SlF wN.drew wN.drew.heap.size A fs := HSF
  have HS : w.heap.size + 1 ≤ wN.drew.heap.size := G1.lt
  clear HY
  have HY := cells5 G1
  clear hb hNX' hw1 hw2 hM
  refine wp_region_noPanic ?_
  refine wp_region_held_drew (S := (fun w' => w'.cell? ⟨w.heap.size, 0, none⟩ = some (.int .i64 a) ∧ w'.cell? ⟨w.heap.size, 1, none⟩ = some (.int .i64 b) ∧ w'.cell? ⟨w.heap.size, 2, none⟩ = some (.int .i64 c) ∧ w'.cell? ⟨w.heap.size, 3, none⟩ = some (.int .i64 d) ∧ w'.cell? ⟨w.heap.size, 4, none⟩ = some (.int .i64 e))) (by kernel_rfl) ?_ (fun hHeld => ?_)
  · (first | exact HY | assumption)
  refine wpAnyH_take (i := 0) (oi := { dst := some 18, op := Op.load 23 (Operand.tmp 2), type := 23, pos := "chip.go:43", after := #[], guard := none }) (v := ?_) rfl (by kernel_rfl) (by kernel_rfl) (by kernel_rfl) (fun _ _ _ h => h) (Or.inl ⟨by rfl, ?_⟩) (by assumption) ?_
  rotate_left
  · (intro wS hSw; (try dsimp only at hSw); go_simp; (try with_reducible rfl))
  try simp only [Act.put, List.setIfInBounds_toArray, List.set_cons_zero, List.set_cons_succ]
  refine wpAnyH_take (i := 1) (oi := { dst := some 19, op := Op.move (Operand.tmp 1), type := 24, pos := "chip.go:43", after := #[], guard := none }) (v := ?_) rfl (by kernel_rfl) (by kernel_rfl) (by kernel_rfl) (fun _ _ _ h => h) (Or.inl ⟨by rfl, ?_⟩) (by assumption) ?_
  rotate_left
  · (intro wS hSw; (try dsimp only at hSw); go_simp; (try with_reducible rfl))
  try simp only [Act.put, List.setIfInBounds_toArray, List.set_cons_zero, List.set_cons_succ]
  refine wpAnyH_take (i := 4) (oi := { dst := some 22, op := Op.move (Operand.tmp 5), type := 3, pos := "chip.go:43", after := #[], guard := none }) (v := ?_) rfl (by kernel_rfl) (by kernel_rfl) (by kernel_rfl) (fun _ _ _ h => h) (Or.inl ⟨by rfl, ?_⟩) (by assumption) ?_
  rotate_left
  · (intro wS hSw; (try dsimp only at hSw); go_simp; (try with_reducible rfl))
  try simp only [Act.put, List.setIfInBounds_toArray, List.set_cons_zero, List.set_cons_succ]
  refine wpAnyH_take (i := 6) (oi := { dst := some 24, op := Op.fieldAddr 23 (Operand.tmp 2) 0, type := 0, pos := "chip.go:43", after := #[], guard := none }) (v := ?_) rfl (by kernel_rfl) (by kernel_rfl) (by kernel_rfl) (fun _ _ _ h => h) (Or.inl ⟨by rfl, ?_⟩) (by assumption) ?_
  rotate_left
  · (intro wS hSw; (try dsimp only at hSw); go_simp; (try with_reducible rfl))
  try simp only [Act.put, List.setIfInBounds_toArray, List.set_cons_zero, List.set_cons_succ]
  refine wpAnyH_take (i := 7) (oi := { dst := some 25, op := Op.load 3 (Operand.tmp 24), type := 3, pos := "chip.go:43", after := #[{ on := 6, ground := Ground.data }], guard := none }) (v := ?_) rfl (by kernel_rfl) (by kernel_rfl) (by kernel_rfl) (fun _ _ _ h => h) (Or.inl ⟨by rfl, ?_⟩) (by assumption) ?_
  rotate_left
  · (intro wS hSw; (try dsimp only at hSw); go_simp; (try with_reducible rfl))
  try simp only [Act.put, List.setIfInBounds_toArray, List.set_cons_zero, List.set_cons_succ]
  refine wpAnyH_ready (rs := [2, 3, 8]) (by kernel_rfl) (by simp) ?_
  refine (AllReadyH.cons (o := { dst := some 20, op := Op.call { callee := Callee.value (Operand.func 35), args := #[Operand.tmp 19], argTypes := #[24] }, type := 24, pos := "chip.go:45", after := #[{ on := 1, ground := Ground.data }], guard := none }) rfl (fun K hK => ?_) (AllReadyH.cons (o := { dst := some 21, op := Op.buildSlice 48 1 #[(0, Operand.const (Value.int IntKind.u8 255))], type := 48, pos := "chip.go:43", after := #[], guard := none }) rfl (fun K hK => ?_) (AllReadyH.cons (o := { dst := some 26, op := Op.makeSlice 69 (Operand.tmp 25) (Operand.tmp 25), type := 69, pos := "chip.go:43", after := #[{ on := 7, ground := Ground.data }, { on := 7, ground := Ground.data }], guard := none }) rfl (fun K hK => ?_) AllReadyH.nil)))
  · go_simp
    (go_at_call 35; go_loud (((with_reducible refine (fclone_any fs _ _ _ HSF hfl).mono ?_); rintro e' wN ⟨⟨AF, cf, rfl, RF, hqf⟩, hb⟩)))
    go_wp2_with fail
    (try have hfx := FNe.fresh hqf RX.lt)
    (try have hfb := FNe.fresh hqf RB.lt)
    (try replace HSF := HSF.next hb)
    (try replace B3 := B3.below hb B3.lt)
    (try replace RX := RX.below hb)
    (try replace RB := RB.below hb)
    replace G1 := G1.below hb G1.lt
    clear HY
    have HY := cells5 G1
    replace HB0 := btr HB0 HB0.size hb
    replace HS := Nat.le_trans HS hb.size
    refine hK.out _ _ ?_ (fun hNew => ?_)
    · (first | exact HY | assumption)
    clear hK K hHeld
    have hHeld := hNew
    clear hNew
    try simp only [Act.put, List.setIfInBounds_toArray, List.set_cons_zero, List.set_cons_succ]
    refine wpAnyH_ready (rs := [3, 8]) (by kernel_rfl) (by simp) ?_
    refine (AllReadyH.cons (o := { dst := some 21, op := Op.buildSlice 48 1 #[(0, Operand.const (Value.int IntKind.u8 255))], type := 48, pos := "chip.go:43", after := #[], guard := none }) rfl (fun K hK => ?_) (AllReadyH.cons (o := { dst := some 26, op := Op.makeSlice 69 (Operand.tmp 25) (Operand.tmp 25), type := 69, pos := "chip.go:43", after := #[{ on := 7, ground := Ground.data }, { on := 7, ground := Ground.data }], guard := none }) rfl (fun K hK => ?_) AllReadyH.nil))
    · refine wp_build1b _ rfl 255 rfl ?_
      intro wN b3 B3 hq hb
      (try replace RF := RF.below_ hb)
      (try replace HSF := HSF.next hb)
      (try replace RX := RX.below hb)
      (try replace RB := RB.below hb)
      replace G1 := G1.below hb G1.lt
      clear HY
      have HY := cells5 G1
      replace HB0 := btr HB0 HB0.size hb
      replace HS := Nat.le_trans HS hb.size
      refine hK.out _ _ ?_ (fun hNew => ?_)
      · (first | exact HY | assumption)
      clear hK K hHeld
      have hHeld := hNew
      clear hNew
      try simp only [Act.put, List.setIfInBounds_toArray, List.set_cons_zero, List.set_cons_succ]
      refine wpAnyH_ready (rs := [5, 8]) (by kernel_rfl) (by simp) ?_
      refine (AllReadyH.cons (o := { dst := some 23, op := Op.call { callee := Callee.value (Operand.func 36), args := #[Operand.tmp 21, Operand.tmp 22], argTypes := #[48, 3] }, type := 48, pos := "chip.go:46", after := #[{ on := 3, ground := Ground.data }, { on := 4, ground := Ground.data }, { on := 2, ground := Ground.chain }], guard := none }) rfl (fun K hK => ?_) (AllReadyH.cons (o := { dst := some 26, op := Op.makeSlice 69 (Operand.tmp 25) (Operand.tmp 25), type := 69, pos := "chip.go:43", after := #[{ on := 7, ground := Ground.data }, { on := 7, ground := Ground.data }], guard := none }) rfl (fun K hK => ?_) AllReadyH.nil))
      · go_simp
        (go_at_call 36; go_loud (((with_reducible refine (rptB_b 255 b3 NX _ B3 n1 n2).mono ?_); rintro e' wN ⟨gx, rfl, hqx, RX, hb⟩)))
        go_wp2_with fail
        have hgx := Nat.le_trans HS hqx
        (try have hxb := Nat.ne_of_gt (Nat.lt_of_lt_of_le RB.lt hqx))
        (try have hfx := RF.ne hqx)
        (try replace RF := RF.below_ hb)
        (try replace HSF := HSF.next hb)
        (try replace B3 := B3.below hb B3.lt)
        (try replace RB := RB.below hb)
        replace G1 := G1.below hb G1.lt
        clear HY
        have HY := cells5 G1
        replace HB0 := btr HB0 HB0.size hb
        replace HS := Nat.le_trans HS hb.size
        refine hK.out _ _ ?_ (fun hNew => ?_)
        · (first | exact HY | assumption)
        clear hK K hHeld
        have hHeld := hNew
        clear hNew
        try simp only [Act.put, List.setIfInBounds_toArray, List.set_cons_zero, List.set_cons_succ]
        refine wpAnyH_ready (rs := [8]) (by kernel_rfl) (by simp) ?_
        refine AllReadyH.cons (o := { dst := some 26, op := Op.makeSlice 69 (Operand.tmp 25) (Operand.tmp 25), type := 69, pos := "chip.go:43", after := #[{ on := 7, ground := Ground.data }, { on := 7, ground := Ground.data }], guard := none }) rfl (fun K hK => ?_) AllReadyH.nil
        refine wp_makeK _ _ rfl a NB rfl rfl hNB (by omega) ?_
        intro wN gb RB hqb hb
        have hgb := Nat.le_trans HS hqb
        (try have hxb := Nat.ne_of_lt (Nat.lt_of_lt_of_le RX.lt hqb))
        (try have hfb := RF.ne hqb)
        (try replace RF := RF.below_ hb)
        (try replace HSF := HSF.next hb)
        (try replace B3 := B3.below hb B3.lt)
        (try replace RX := RX.below hb)
        replace G1 := G1.below hb G1.lt
        clear HY
        have HY := cells5 G1
        replace HB0 := btr HB0 HB0.size hb
        replace HS := Nat.le_trans HS hb.size
        refine hK.out _ _ ?_ (fun hNew => ?_)
        · (first | exact HY | assumption)
        clear hK K hHeld
        have hHeld := hNew
        clear hNew
        try simp only [Act.put, List.setIfInBounds_toArray, List.set_cons_zero, List.set_cons_succ]
        refine wpAnyH_take (i := 9) (oi := { dst := some 27, op := Op.build 71 #[(0, Operand.tmp 18), (1, Operand.tmp 20), (2, Operand.tmp 23), (3, Operand.tmp 26), (6, Operand.const (Value.bool true))], type := 71, pos := "chip.go:43", after := #[{ on := 0, ground := Ground.data }, { on := 2, ground := Ground.data }, { on := 5, ground := Ground.data }, { on := 8, ground := Ground.data }], guard := none }) (v := ?_) rfl (by kernel_rfl) (by kernel_rfl) (by kernel_rfl) (fun _ _ _ h => h) (Or.inl ⟨by rfl, ?_⟩) (by assumption) ?_
        rotate_left
        · (intro wS hSw; (try dsimp only at hSw); go_simp; (try with_reducible rfl))
        try simp only [Act.put, List.setIfInBounds_toArray, List.set_cons_zero, List.set_cons_succ]
        refine wpAnyH_ready (rs := [10]) (by kernel_rfl) (by simp) ?_
        refine AllReadyH.cons (o := { dst := some 28, op := Op.box 71 (Operand.tmp 27), type := 27, pos := "chip.go:43", after := #[{ on := 9, ground := Ground.data }], guard := none }) rfl (fun K hK => ?_) AllReadyH.nil
        refine wp_boxF _ rfl rfl ?_
        intro wN m BM hqm hb
        have hm := Nat.le_trans HS hqm
        have h1 : m ≠ gx := Nat.ne_of_gt (Nat.lt_of_lt_of_le RX.lt hqm)
        have h2 : m ≠ gb := Nat.ne_of_gt (Nat.lt_of_lt_of_le RB.lt hqm)
        have hfm := RF.ne hqm
        (try replace RF := RF.below_ hb)
        (try replace HSF := HSF.next hb)
        (try replace B3 := B3.below hb B3.lt)
        (try replace RX := RX.below hb)
        (try replace RB := RB.below hb)
        replace G1 := G1.below hb G1.lt
        clear HY
        have HY := cells5 G1
        replace HB0 := btr HB0 HB0.size hb
        replace HS := Nat.le_trans HS hb.size
        refine hK.out _ _ ?_ (fun hNew => ?_)
        · (first | exact HY | assumption)
        clear hK K hHeld
        have hHeld := hNew
        clear hNew
        try simp only [Act.put, List.setIfInBounds_toArray, List.set_cons_zero, List.set_cons_succ]
        refine wpAnyH_take (i := 11) (oi := { dst := some 4, op := Op.assign (Operand.tmp 28), type := 27, pos := "chip.go:43", after := #[{ on := 10, ground := Ground.data }, { on := 5, ground := Ground.chain }, { on := 0, ground := Ground.phase }, { on := 1, ground := Ground.phase }, { on := 2, ground := Ground.phase }, { on := 3, ground := Ground.phase }, { on := 4, ground := Ground.phase }, { on := 5, ground := Ground.phase }, { on := 6, ground := Ground.phase }, { on := 7, ground := Ground.phase }, { on := 8, ground := Ground.phase }, { on := 9, ground := Ground.phase }, { on := 10, ground := Ground.phase }], guard := none }) (v := ?_) rfl (by kernel_rfl) (by kernel_rfl) (by kernel_rfl) (fun _ _ _ h => h) (Or.inl ⟨by rfl, ?_⟩) (by assumption) ?_
        rotate_left
        · (intro wS hSw; (try dsimp only at hSw); go_simp; (try with_reducible rfl))
        try simp only [Act.put, List.setIfInBounds_toArray, List.set_cons_zero, List.set_cons_succ]
        refine wpAnyH_done (by kernel_rfl) ?_ _
        refine NoPanic.normal ?_
        go_wp2_with fail
        go_ret
        refine ⟨⟨m, gx, gb, AF, cf, rfl, ⟨⟨NX, NB, NX, NB, by simp [ChS.new], hNB, Nat.le_refl _, BM⟩, by simpa [ChS.new, byteV] using RX, by simpa [ChS.new] using RB, RF.at_ hfm hfx hfb, h1, h2, hxb, (List.length_replicate ..).trans HLX.out, (List.length_replicate ..).trans HLK.out, rfl, HP.out⟩, by omega, by omega, by omega⟩, HB0⟩
      · refine wp_makeK _ _ rfl a NB rfl rfl hNB (by omega) ?_
        intro wN gb RB hqb hb
        have hgb := Nat.le_trans HS hqb
        (try have hxb := Nat.ne_of_lt (Nat.lt_of_lt_of_le RX.lt hqb))
        (try have hfb := RF.ne hqb)
        (try replace RF := RF.below_ hb)
        (try replace HSF := HSF.next hb)
        (try replace B3 := B3.below hb B3.lt)
        (try replace RX := RX.below hb)
        replace G1 := G1.below hb G1.lt
        clear HY
        have HY := cells5 G1
        replace HB0 := btr HB0 HB0.size hb
        replace HS := Nat.le_trans HS hb.size
        refine hK.out _ _ ?_ (fun hNew => ?_)
        · (first | exact HY | assumption)
        clear hK K hHeld
        have hHeld := hNew
        clear hNew
        try simp only [Act.put, List.setIfInBounds_toArray, List.set_cons_zero, List.set_cons_succ]
        refine wpAnyH_ready (rs := [5]) (by kernel_rfl) (by simp) ?_
        refine AllReadyH.cons (o := { dst := some 23, op := Op.call { callee := Callee.value (Operand.func 36), args := #[Operand.tmp 21, Operand.tmp 22], argTypes := #[48, 3] }, type := 48, pos := "chip.go:46", after := #[{ on := 3, ground := Ground.data }, { on := 4, ground := Ground.data }, { on := 2, ground := Ground.chain }], guard := none }) rfl (fun K hK => ?_) AllReadyH.nil
        go_simp
        (go_at_call 36; go_loud (((with_reducible refine (rptB_b 255 b3 NX _ B3 n1 n2).mono ?_); rintro e' wN ⟨gx, rfl, hqx, RX, hb⟩)))
        go_wp2_with fail
        have hgx := Nat.le_trans HS hqx
        (try have hxb := Nat.ne_of_gt (Nat.lt_of_lt_of_le RB.lt hqx))
        (try have hfx := RF.ne hqx)
        (try replace RF := RF.below_ hb)
        (try replace HSF := HSF.next hb)
        (try replace B3 := B3.below hb B3.lt)
        (try replace RB := RB.below hb)
        replace G1 := G1.below hb G1.lt
        clear HY
        have HY := cells5 G1
        replace HB0 := btr HB0 HB0.size hb
        replace HS := Nat.le_trans HS hb.size
        refine hK.out _ _ ?_ (fun hNew => ?_)
        · (first | exact HY | assumption)
        clear hK K hHeld
        have hHeld := hNew
        clear hNew
        try simp only [Act.put, List.setIfInBounds_toArray, List.set_cons_zero, List.set_cons_succ]
        refine wpAnyH_take (i := 9) (oi := { dst := some 27, op := Op.build 71 #[(0, Operand.tmp 18), (1, Operand.tmp 20), (2, Operand.tmp 23), (3, Operand.tmp 26), (6, Operand.const (Value.bool true))], type := 71, pos := "chip.go:43", after := #[{ on := 0, ground := Ground.data }, { on := 2, ground := Ground.data }, { on := 5, ground := Ground.data }, { on := 8, ground := Ground.data }], guard := none }) (v := ?_) rfl (by kernel_rfl) (by kernel_rfl) (by kernel_rfl) (fun _ _ _ h => h) (Or.inl ⟨by rfl, ?_⟩) (by assumption) ?_
        rotate_left
        · (intro wS hSw; (try dsimp only at hSw); go_simp; (try with_reducible rfl))
        try simp only [Act.put, List.setIfInBounds_toArray, List.set_cons_zero, List.set_cons_succ]
        refine wpAnyH_ready (rs := [10]) (by kernel_rfl) (by simp) ?_
        refine AllReadyH.cons (o := { dst := some 28, op := Op.box 71 (Operand.tmp 27), type := 27, pos := "chip.go:43", after := #[{ on := 9, ground := Ground.data }], guard := none }) rfl (fun K hK => ?_) AllReadyH.nil
        refine wp_boxF _ rfl rfl ?_
        intro wN m BM hqm hb
        have hm := Nat.le_trans HS hqm
        have h1 : m ≠ gx := Nat.ne_of_gt (Nat.lt_of_lt_of_le RX.lt hqm)
        have h2 : m ≠ gb := Nat.ne_of_gt (Nat.lt_of_lt_of_le RB.lt hqm)
        have hfm := RF.ne hqm
        (try replace RF := RF.below_ hb)
        (try replace HSF := HSF.next hb)
        (try replace B3 := B3.below hb B3.lt)
        (try replace RX := RX.below hb)
        (try replace RB := RB.below hb)
        replace G1 := G1.below hb G1.lt
        clear HY
        have HY := cells5 G1
        replace HB0 := btr HB0 HB0.size hb
        replace HS := Nat.le_trans HS hb.size
        refine hK.out _ _ ?_ (fun hNew => ?_)
        · (first | exact HY | assumption)
        clear hK K hHeld
        have hHeld := hNew
        clear hNew
        try simp only [Act.put, List.setIfInBounds_toArray, List.set_cons_zero, List.set_cons_succ]
        refine wpAnyH_take (i := 11) (oi := { dst := some 4, op := Op.assign (Operand.tmp 28), type := 27, pos := "chip.go:43", after := #[{ on := 10, ground := Ground.data }, { on := 5, ground := Ground.chain }, { on := 0, ground := Ground.phase }, { on := 1, ground := Ground.phase }, { on := 2, ground := Ground.phase }, { on := 3, ground := Ground.phase }, { on := 4, ground := Ground.phase }, { on := 5, ground := Ground.phase }, { on := 6, ground := Ground.phase }, { on := 7, ground := Ground.phase }, { on := 8, ground := Ground.phase }, { on := 9, ground := Ground.phase }, { on := 10, ground := Ground.phase }], guard := none }) (v := ?_) rfl (by kernel_rfl) (by kernel_rfl) (by kernel_rfl) (fun _ _ _ h => h) (Or.inl ⟨by rfl, ?_⟩) (by assumption) ?_
        rotate_left
        · (intro wS hSw; (try dsimp only at hSw); go_simp; (try with_reducible rfl))
        try simp only [Act.put, List.setIfInBounds_toArray, List.set_cons_zero, List.set_cons_succ]
        refine wpAnyH_done (by kernel_rfl) ?_ _
        refine NoPanic.normal ?_
        go_wp2_with fail
        go_ret
        refine ⟨⟨m, gx, gb, AF, cf, rfl, ⟨⟨NX, NB, NX, NB, by simp [ChS.new], hNB, Nat.le_refl _, BM⟩, by simpa [ChS.new, byteV] using RX, by simpa [ChS.new] using RB, RF.at_ hfm hfx hfb, h1, h2, hxb, (List.length_replicate ..).trans HLX.out, (List.length_replicate ..).trans HLK.out, rfl, HP.out⟩, by omega, by omega, by omega⟩, HB0⟩
    · refine wp_makeK _ _ rfl a NB rfl rfl hNB (by omega) ?_
      intro wN gb RB hqb hb
      have hgb := Nat.le_trans HS hqb
      (try have hxb := Nat.ne_of_lt (Nat.lt_of_lt_of_le RX.lt hqb))
      (try have hfb := RF.ne hqb)
      (try replace RF := RF.below_ hb)
      (try replace HSF := HSF.next hb)
      (try replace B3 := B3.below hb B3.lt)
      (try replace RX := RX.below hb)
      replace G1 := G1.below hb G1.lt
      clear HY
      have HY := cells5 G1
      replace HB0 := btr HB0 HB0.size hb
      replace HS := Nat.le_trans HS hb.size
      refine hK.out _ _ ?_ (fun hNew => ?_)
      · (first | exact HY | assumption)
      clear hK K hHeld
      have hHeld := hNew
      clear hNew
      try simp only [Act.put, List.setIfInBounds_toArray, List.set_cons_zero, List.set_cons_succ]
      refine wpAnyH_ready (rs := [3]) (by kernel_rfl) (by simp) ?_
      refine AllReadyH.cons (o := { dst := some 21, op := Op.buildSlice 48 1 #[(0, Operand.const (Value.int IntKind.u8 255))], type := 48, pos := "chip.go:43", after := #[], guard := none }) rfl (fun K hK => ?_) AllReadyH.nil
      refine wp_build1b _ rfl 255 rfl ?_
      intro wN b3 B3 hq hb
      (try replace RF := RF.below_ hb)
      (try replace HSF := HSF.next hb)
      (try replace RX := RX.below hb)
      (try replace RB := RB.below hb)
      replace G1 := G1.below hb G1.lt
      clear HY
      have HY := cells5 G1
      replace HB0 := btr HB0 HB0.size hb
      replace HS := Nat.le_trans HS hb.size
      refine hK.out _ _ ?_ (fun hNew => ?_)
      · (first | exact HY | assumption)
      clear hK K hHeld
      have hHeld := hNew
      clear hNew
      try simp only [Act.put, List.setIfInBounds_toArray, List.set_cons_zero, List.set_cons_succ]
      refine wpAnyH_ready (rs := [5]) (by kernel_rfl) (by simp) ?_
      refine AllReadyH.cons (o := { dst := some 23, op := Op.call { callee := Callee.value (Operand.func 36), args := #[Operand.tmp 21, Operand.tmp 22], argTypes := #[48, 3] }, type := 48, pos := "chip.go:46", after := #[{ on := 3, ground := Ground.data }, { on := 4, ground := Ground.data }, { on := 2, ground := Ground.chain }], guard := none }) rfl (fun K hK => ?_) AllReadyH.nil
      go_simp
      (go_at_call 36; go_loud (((with_reducible refine (rptB_b 255 b3 NX _ B3 n1 n2).mono ?_); rintro e' wN ⟨gx, rfl, hqx, RX, hb⟩)))
      go_wp2_with fail
      have hgx := Nat.le_trans HS hqx
      (try have hxb := Nat.ne_of_gt (Nat.lt_of_lt_of_le RB.lt hqx))
      (try have hfx := RF.ne hqx)
      (try replace RF := RF.below_ hb)
      (try replace HSF := HSF.next hb)
      (try replace B3 := B3.below hb B3.lt)
      (try replace RB := RB.below hb)
      replace G1 := G1.below hb G1.lt
      clear HY
      have HY := cells5 G1
      replace HB0 := btr HB0 HB0.size hb
      replace HS := Nat.le_trans HS hb.size
      refine hK.out _ _ ?_ (fun hNew => ?_)
      · (first | exact HY | assumption)
      clear hK K hHeld
      have hHeld := hNew
      clear hNew
      try simp only [Act.put, List.setIfInBounds_toArray, List.set_cons_zero, List.set_cons_succ]
      refine wpAnyH_take (i := 9) (oi := { dst := some 27, op := Op.build 71 #[(0, Operand.tmp 18), (1, Operand.tmp 20), (2, Operand.tmp 23), (3, Operand.tmp 26), (6, Operand.const (Value.bool true))], type := 71, pos := "chip.go:43", after := #[{ on := 0, ground := Ground.data }, { on := 2, ground := Ground.data }, { on := 5, ground := Ground.data }, { on := 8, ground := Ground.data }], guard := none }) (v := ?_) rfl (by kernel_rfl) (by kernel_rfl) (by kernel_rfl) (fun _ _ _ h => h) (Or.inl ⟨by rfl, ?_⟩) (by assumption) ?_
      rotate_left
      · (intro wS hSw; (try dsimp only at hSw); go_simp; (try with_reducible rfl))
      try simp only [Act.put, List.setIfInBounds_toArray, List.set_cons_zero, List.set_cons_succ]
      refine wpAnyH_ready (rs := [10]) (by kernel_rfl) (by simp) ?_
      refine AllReadyH.cons (o := { dst := some 28, op := Op.box 71 (Operand.tmp 27), type := 27, pos := "chip.go:43", after := #[{ on := 9, ground := Ground.data }], guard := none }) rfl (fun K hK => ?_) AllReadyH.nil
      refine wp_boxF _ rfl rfl ?_
      intro wN m BM hqm hb
      have hm := Nat.le_trans HS hqm
      have h1 : m ≠ gx := Nat.ne_of_gt (Nat.lt_of_lt_of_le RX.lt hqm)
      have h2 : m ≠ gb := Nat.ne_of_gt (Nat.lt_of_lt_of_le RB.lt hqm)
      have hfm := RF.ne hqm
      (try replace RF := RF.below_ hb)
      (try replace HSF := HSF.next hb)
      (try replace B3 := B3.below hb B3.lt)
      (try replace RX := RX.below hb)
      (try replace RB := RB.below hb)
      replace G1 := G1.below hb G1.lt
      clear HY
      have HY := cells5 G1
      replace HB0 := btr HB0 HB0.size hb
      replace HS := Nat.le_trans HS hb.size
      refine hK.out _ _ ?_ (fun hNew => ?_)
      · (first | exact HY | assumption)
      clear hK K hHeld
      have hHeld := hNew
      clear hNew
      try simp only [Act.put, List.setIfInBounds_toArray, List.set_cons_zero, List.set_cons_succ]
      refine wpAnyH_take (i := 11) (oi := { dst := some 4, op := Op.assign (Operand.tmp 28), type := 27, pos := "chip.go:43", after := #[{ on := 10, ground := Ground.data }, { on := 5, ground := Ground.chain }, { on := 0, ground := Ground.phase }, { on := 1, ground := Ground.phase }, { on := 2, ground := Ground.phase }, { on := 3, ground := Ground.phase }, { on := 4, ground := Ground.phase }, { on := 5, ground := Ground.phase }, { on := 6, ground := Ground.phase }, { on := 7, ground := Ground.phase }, { on := 8, ground := Ground.phase }, { on := 9, ground := Ground.phase }, { on := 10, ground := Ground.phase }], guard := none }) (v := ?_) rfl (by kernel_rfl) (by kernel_rfl) (by kernel_rfl) (fun _ _ _ h => h) (Or.inl ⟨by rfl, ?_⟩) (by assumption) ?_
      rotate_left
      · (intro wS hSw; (try dsimp only at hSw); go_simp; (try with_reducible rfl))
      try simp only [Act.put, List.setIfInBounds_toArray, List.set_cons_zero, List.set_cons_succ]
      refine wpAnyH_done (by kernel_rfl) ?_ _
      refine NoPanic.normal ?_
      go_wp2_with fail
      go_ret
      refine ⟨⟨m, gx, gb, AF, cf, rfl, ⟨⟨NX, NB, NX, NB, by simp [ChS.new], hNB, Nat.le_refl _, BM⟩, by simpa [ChS.new, byteV] using RX, by simpa [ChS.new] using RB, RF.at_ hfm hfx hfb, h1, h2, hxb, (List.length_replicate ..).trans HLX.out, (List.length_replicate ..).trans HLK.out, rfl, HP.out⟩, by omega, by omega, by omega⟩, HB0⟩
  · refine wp_build1b _ rfl 255 rfl ?_
    intro wN b3 B3 hq hb
    (try replace RF := RF.below_ hb)
    (try replace HSF := HSF.next hb)
    (try replace RX := RX.below hb)
    (try replace RB := RB.below hb)
    replace G1 := G1.below hb G1.lt
    clear HY
    have HY := cells5 G1
    replace HB0 := btr HB0 HB0.size hb
    replace HS := Nat.le_trans HS hb.size
    refine hK.out _ _ ?_ (fun hNew => ?_)
    · (first | exact HY | assumption)
    clear hK K hHeld
    have hHeld := hNew
    clear hNew
    try simp only [Act.put, List.setIfInBounds_toArray, List.set_cons_zero, List.set_cons_succ]
    refine wpAnyH_ready (rs := [2, 8]) (by kernel_rfl) (by simp) ?_
    refine (AllReadyH.cons (o := { dst := some 20, op := Op.call { callee := Callee.value (Operand.func 35), args := #[Operand.tmp 19], argTypes := #[24] }, type := 24, pos := "chip.go:45", after := #[{ on := 1, ground := Ground.data }], guard := none }) rfl (fun K hK => ?_) (AllReadyH.cons (o := { dst := some 26, op := Op.makeSlice 69 (Operand.tmp 25) (Operand.tmp 25), type := 69, pos := "chip.go:43", after := #[{ on := 7, ground := Ground.data }, { on := 7, ground := Ground.data }], guard := none }) rfl (fun K hK => ?_) AllReadyH.nil))
    · go_simp
      (go_at_call 35; go_loud (((with_reducible refine (fclone_any fs _ _ _ HSF hfl).mono ?_); rintro e' wN ⟨⟨AF, cf, rfl, RF, hqf⟩, hb⟩)))
      go_wp2_with fail
      (try have hfx := FNe.fresh hqf RX.lt)
      (try have hfb := FNe.fresh hqf RB.lt)
      (try replace HSF := HSF.next hb)
      (try replace B3 := B3.below hb B3.lt)
      (try replace RX := RX.below hb)
      (try replace RB := RB.below hb)
      replace G1 := G1.below hb G1.lt
      clear HY
      have HY := cells5 G1
      replace HB0 := btr HB0 HB0.size hb
      replace HS := Nat.le_trans HS hb.size
      refine hK.out _ _ ?_ (fun hNew => ?_)
      · (first | exact HY | assumption)
      clear hK K hHeld
      have hHeld := hNew
      clear hNew
      try simp only [Act.put, List.setIfInBounds_toArray, List.set_cons_zero, List.set_cons_succ]
      refine wpAnyH_ready (rs := [5, 8]) (by kernel_rfl) (by simp) ?_
      refine (AllReadyH.cons (o := { dst := some 23, op := Op.call { callee := Callee.value (Operand.func 36), args := #[Operand.tmp 21, Operand.tmp 22], argTypes := #[48, 3] }, type := 48, pos := "chip.go:46", after := #[{ on := 3, ground := Ground.data }, { on := 4, ground := Ground.data }, { on := 2, ground := Ground.chain }], guard := none }) rfl (fun K hK => ?_) (AllReadyH.cons (o := { dst := some 26, op := Op.makeSlice 69 (Operand.tmp 25) (Operand.tmp 25), type := 69, pos := "chip.go:43", after := #[{ on := 7, ground := Ground.data }, { on := 7, ground := Ground.data }], guard := none }) rfl (fun K hK => ?_) AllReadyH.nil))
      · go_simp
        (go_at_call 36; go_loud (((with_reducible refine (rptB_b 255 b3 NX _ B3 n1 n2).mono ?_); rintro e' wN ⟨gx, rfl, hqx, RX, hb⟩)))
        go_wp2_with fail
        have hgx := Nat.le_trans HS hqx
        (try have hxb := Nat.ne_of_gt (Nat.lt_of_lt_of_le RB.lt hqx))
        (try have hfx := RF.ne hqx)
        (try replace RF := RF.below_ hb)
        (try replace HSF := HSF.next hb)
        (try replace B3 := B3.below hb B3.lt)
        (try replace RB := RB.below hb)
        replace G1 := G1.below hb G1.lt
        clear HY
        have HY := cells5 G1
        replace HB0 := btr HB0 HB0.size hb
        replace HS := Nat.le_trans HS hb.size
        refine hK.out _ _ ?_ (fun hNew => ?_)
        · (first | exact HY | assumption)
        clear hK K hHeld
        have hHeld := hNew
        clear hNew
        try simp only [Act.put, List.setIfInBounds_toArray, List.set_cons_zero, List.set_cons_succ]
        refine wpAnyH_ready (rs := [8]) (by kernel_rfl) (by simp) ?_
        refine AllReadyH.cons (o := { dst := some 26, op := Op.makeSlice 69 (Operand.tmp 25) (Operand.tmp 25), type := 69, pos := "chip.go:43", after := #[{ on := 7, ground := Ground.data }, { on := 7, ground := Ground.data }], guard := none }) rfl (fun K hK => ?_) AllReadyH.nil
        refine wp_makeK _ _ rfl a NB rfl rfl hNB (by omega) ?_
        intro wN gb RB hqb hb
        have hgb := Nat.le_trans HS hqb
        (try have hxb := Nat.ne_of_lt (Nat.lt_of_lt_of_le RX.lt hqb))
        (try have hfb := RF.ne hqb)
        (try replace RF := RF.below_ hb)
        (try replace HSF := HSF.next hb)
        (try replace B3 := B3.below hb B3.lt)
        (try replace RX := RX.below hb)
        replace G1 := G1.below hb G1.lt
        clear HY
        have HY := cells5 G1
        replace HB0 := btr HB0 HB0.size hb
        replace HS := Nat.le_trans HS hb.size
        refine hK.out _ _ ?_ (fun hNew => ?_)
        · (first | exact HY | assumption)
        clear hK K hHeld
        have hHeld := hNew
        clear hNew
        try simp only [Act.put, List.setIfInBounds_toArray, List.set_cons_zero, List.set_cons_succ]
        refine wpAnyH_take (i := 9) (oi := { dst := some 27, op := Op.build 71 #[(0, Operand.tmp 18), (1, Operand.tmp 20), (2, Operand.tmp 23), (3, Operand.tmp 26), (6, Operand.const (Value.bool true))], type := 71, pos := "chip.go:43", after := #[{ on := 0, ground := Ground.data }, { on := 2, ground := Ground.data }, { on := 5, ground := Ground.data }, { on := 8, ground := Ground.data }], guard := none }) (v := ?_) rfl (by kernel_rfl) (by kernel_rfl) (by kernel_rfl) (fun _ _ _ h => h) (Or.inl ⟨by rfl, ?_⟩) (by assumption) ?_
        rotate_left
        · (intro wS hSw; (try dsimp only at hSw); go_simp; (try with_reducible rfl))
        try simp only [Act.put, List.setIfInBounds_toArray, List.set_cons_zero, List.set_cons_succ]
        refine wpAnyH_ready (rs := [10]) (by kernel_rfl) (by simp) ?_
        refine AllReadyH.cons (o := { dst := some 28, op := Op.box 71 (Operand.tmp 27), type := 27, pos := "chip.go:43", after := #[{ on := 9, ground := Ground.data }], guard := none }) rfl (fun K hK => ?_) AllReadyH.nil
        refine wp_boxF _ rfl rfl ?_
        intro wN m BM hqm hb
        have hm := Nat.le_trans HS hqm
        have h1 : m ≠ gx := Nat.ne_of_gt (Nat.lt_of_lt_of_le RX.lt hqm)
        have h2 : m ≠ gb := Nat.ne_of_gt (Nat.lt_of_lt_of_le RB.lt hqm)
        have hfm := RF.ne hqm
        (try replace RF := RF.below_ hb)
        (try replace HSF := HSF.next hb)
        (try replace B3 := B3.below hb B3.lt)
        (try replace RX := RX.below hb)
        (try replace RB := RB.below hb)
        replace G1 := G1.below hb G1.lt
        clear HY
        have HY := cells5 G1
        replace HB0 := btr HB0 HB0.size hb
        replace HS := Nat.le_trans HS hb.size
        refine hK.out _ _ ?_ (fun hNew => ?_)
        · (first | exact HY | assumption)
        clear hK K hHeld
        have hHeld := hNew
        clear hNew
        try simp only [Act.put, List.setIfInBounds_toArray, List.set_cons_zero, List.set_cons_succ]
        refine wpAnyH_take (i := 11) (oi := { dst := some 4, op := Op.assign (Operand.tmp 28), type := 27, pos := "chip.go:43", after := #[{ on := 10, ground := Ground.data }, { on := 5, ground := Ground.chain }, { on := 0, ground := Ground.phase }, { on := 1, ground := Ground.phase }, { on := 2, ground := Ground.phase }, { on := 3, ground := Ground.phase }, { on := 4, ground := Ground.phase }, { on := 5, ground := Ground.phase }, { on := 6, ground := Ground.phase }, { on := 7, ground := Ground.phase }, { on := 8, ground := Ground.phase }, { on := 9, ground := Ground.phase }, { on := 10, ground := Ground.phase }], guard := none }) (v := ?_) rfl (by kernel_rfl) (by kernel_rfl) (by kernel_rfl) (fun _ _ _ h => h) (Or.inl ⟨by rfl, ?_⟩) (by assumption) ?_
        rotate_left
        · (intro wS hSw; (try dsimp only at hSw); go_simp; (try with_reducible rfl))
        try simp only [Act.put, List.setIfInBounds_toArray, List.set_cons_zero, List.set_cons_succ]
        refine wpAnyH_done (by kernel_rfl) ?_ _
        refine NoPanic.normal ?_
        go_wp2_with fail
        go_ret
        refine ⟨⟨m, gx, gb, AF, cf, rfl, ⟨⟨NX, NB, NX, NB, by simp [ChS.new], hNB, Nat.le_refl _, BM⟩, by simpa [ChS.new, byteV] using RX, by simpa [ChS.new] using RB, RF.at_ hfm hfx hfb, h1, h2, hxb, (List.length_replicate ..).trans HLX.out, (List.length_replicate ..).trans HLK.out, rfl, HP.out⟩, by omega, by omega, by omega⟩, HB0⟩
      · refine wp_makeK _ _ rfl a NB rfl rfl hNB (by omega) ?_
        intro wN gb RB hqb hb
        have hgb := Nat.le_trans HS hqb
        (try have hxb := Nat.ne_of_lt (Nat.lt_of_lt_of_le RX.lt hqb))
        (try have hfb := RF.ne hqb)
        (try replace RF := RF.below_ hb)
        (try replace HSF := HSF.next hb)
        (try replace B3 := B3.below hb B3.lt)
        (try replace RX := RX.below hb)
        replace G1 := G1.below hb G1.lt
        clear HY
        have HY := cells5 G1
        replace HB0 := btr HB0 HB0.size hb
        replace HS := Nat.le_trans HS hb.size
        refine hK.out _ _ ?_ (fun hNew => ?_)
        · (first | exact HY | assumption)
        clear hK K hHeld
        have hHeld := hNew
        clear hNew
        try simp only [Act.put, List.setIfInBounds_toArray, List.set_cons_zero, List.set_cons_succ]
        refine wpAnyH_ready (rs := [5]) (by kernel_rfl) (by simp) ?_
        refine AllReadyH.cons (o := { dst := some 23, op := Op.call { callee := Callee.value (Operand.func 36), args := #[Operand.tmp 21, Operand.tmp 22], argTypes := #[48, 3] }, type := 48, pos := "chip.go:46", after := #[{ on := 3, ground := Ground.data }, { on := 4, ground := Ground.data }, { on := 2, ground := Ground.chain }], guard := none }) rfl (fun K hK => ?_) AllReadyH.nil
        go_simp
        (go_at_call 36; go_loud (((with_reducible refine (rptB_b 255 b3 NX _ B3 n1 n2).mono ?_); rintro e' wN ⟨gx, rfl, hqx, RX, hb⟩)))
        go_wp2_with fail
        have hgx := Nat.le_trans HS hqx
        (try have hxb := Nat.ne_of_gt (Nat.lt_of_lt_of_le RB.lt hqx))
        (try have hfx := RF.ne hqx)
        (try replace RF := RF.below_ hb)
        (try replace HSF := HSF.next hb)
        (try replace B3 := B3.below hb B3.lt)
        (try replace RB := RB.below hb)
        replace G1 := G1.below hb G1.lt
        clear HY
        have HY := cells5 G1
        replace HB0 := btr HB0 HB0.size hb
        replace HS := Nat.le_trans HS hb.size
        refine hK.out _ _ ?_ (fun hNew => ?_)
        · (first | exact HY | assumption)
        clear hK K hHeld
        have hHeld := hNew
        clear hNew
        try simp only [Act.put, List.setIfInBounds_toArray, List.set_cons_zero, List.set_cons_succ]
        refine wpAnyH_take (i := 9) (oi := { dst := some 27, op := Op.build 71 #[(0, Operand.tmp 18), (1, Operand.tmp 20), (2, Operand.tmp 23), (3, Operand.tmp 26), (6, Operand.const (Value.bool true))], type := 71, pos := "chip.go:43", after := #[{ on := 0, ground := Ground.data }, { on := 2, ground := Ground.data }, { on := 5, ground := Ground.data }, { on := 8, ground := Ground.data }], guard := none }) (v := ?_) rfl (by kernel_rfl) (by kernel_rfl) (by kernel_rfl) (fun _ _ _ h => h) (Or.inl ⟨by rfl, ?_⟩) (by assumption) ?_
        rotate_left
        · (intro wS hSw; (try dsimp only at hSw); go_simp; (try with_reducible rfl))
        try simp only [Act.put, List.setIfInBounds_toArray, List.set_cons_zero, List.set_cons_succ]
        refine wpAnyH_ready (rs := [10]) (by kernel_rfl) (by simp) ?_
        refine AllReadyH.cons (o := { dst := some 28, op := Op.box 71 (Operand.tmp 27), type := 27, pos := "chip.go:43", after := #[{ on := 9, ground := Ground.data }], guard := none }) rfl (fun K hK => ?_) AllReadyH.nil
        refine wp_boxF _ rfl rfl ?_
        intro wN m BM hqm hb
        have hm := Nat.le_trans HS hqm
        have h1 : m ≠ gx := Nat.ne_of_gt (Nat.lt_of_lt_of_le RX.lt hqm)
        have h2 : m ≠ gb := Nat.ne_of_gt (Nat.lt_of_lt_of_le RB.lt hqm)
        have hfm := RF.ne hqm
        (try replace RF := RF.below_ hb)
        (try replace HSF := HSF.next hb)
        (try replace B3 := B3.below hb B3.lt)
        (try replace RX := RX.below hb)
        (try replace RB := RB.below hb)
        replace G1 := G1.below hb G1.lt
        clear HY
        have HY := cells5 G1
        replace HB0 := btr HB0 HB0.size hb
        replace HS := Nat.le_trans HS hb.size
        refine hK.out _ _ ?_ (fun hNew => ?_)
        · (first | exact HY | assumption)
        clear hK K hHeld
        have hHeld := hNew
        clear hNew
        try simp only [Act.put, List.setIfInBounds_toArray, List.set_cons_zero, List.set_cons_succ]
        refine wpAnyH_take (i := 11) (oi := { dst := some 4, op := Op.assign (Operand.tmp 28), type := 27, pos := "chip.go:43", after := #[{ on := 10, ground := Ground.data }, { on := 5, ground := Ground.chain }, { on := 0, ground := Ground.phase }, { on := 1, ground := Ground.phase }, { on := 2, ground := Ground.phase }, { on := 3, ground := Ground.phase }, { on := 4, ground := Ground.phase }, { on := 5, ground := Ground.phase }, { on := 6, ground := Ground.phase }, { on := 7, ground := Ground.phase }, { on := 8, ground := Ground.phase }, { on := 9, ground := Ground.phase }, { on := 10, ground := Ground.phase }], guard := none }) (v := ?_) rfl (by kernel_rfl) (by kernel_rfl) (by kernel_rfl) (fun _ _ _ h => h) (Or.inl ⟨by rfl, ?_⟩) (by assumption) ?_
        rotate_left
        · (intro wS hSw; (try dsimp only at hSw); go_simp; (try with_reducible rfl))
        try simp only [Act.put, List.setIfInBounds_toArray, List.set_cons_zero, List.set_cons_succ]
        refine wpAnyH_done (by kernel_rfl) ?_ _
        refine NoPanic.normal ?_
        go_wp2_with fail
        go_ret
        refine ⟨⟨m, gx, gb, AF, cf, rfl, ⟨⟨NX, NB, NX, NB, by simp [ChS.new], hNB, Nat.le_refl _, BM⟩, by simpa [ChS.new, byteV] using RX, by simpa [ChS.new] using RB, RF.at_ hfm hfx hfb, h1, h2, hxb, (List.length_replicate ..).trans HLX.out, (List.length_replicate ..).trans HLK.out, rfl, HP.out⟩, by omega, by omega, by omega⟩, HB0⟩
    · refine wp_makeK _ _ rfl a NB rfl rfl hNB (by omega) ?_
      intro wN gb RB hqb hb
      have hgb := Nat.le_trans HS hqb
      (try have hxb := Nat.ne_of_lt (Nat.lt_of_lt_of_le RX.lt hqb))
      (try have hfb := RF.ne hqb)
      (try replace RF := RF.below_ hb)
      (try replace HSF := HSF.next hb)
      (try replace B3 := B3.below hb B3.lt)
      (try replace RX := RX.below hb)
      replace G1 := G1.below hb G1.lt
      clear HY
      have HY := cells5 G1
      replace HB0 := btr HB0 HB0.size hb
      replace HS := Nat.le_trans HS hb.size
      refine hK.out _ _ ?_ (fun hNew => ?_)
      · (first | exact HY | assumption)
      clear hK K hHeld
      have hHeld := hNew
      clear hNew
      try simp only [Act.put, List.setIfInBounds_toArray, List.set_cons_zero, List.set_cons_succ]
      refine wpAnyH_ready (rs := [2]) (by kernel_rfl) (by simp) ?_
      refine AllReadyH.cons (o := { dst := some 20, op := Op.call { callee := Callee.value (Operand.func 35), args := #[Operand.tmp 19], argTypes := #[24] }, type := 24, pos := "chip.go:45", after := #[{ on := 1, ground := Ground.data }], guard := none }) rfl (fun K hK => ?_) AllReadyH.nil
      go_simp
      (go_at_call 35; go_loud (((with_reducible refine (fclone_any fs _ _ _ HSF hfl).mono ?_); rintro e' wN ⟨⟨AF, cf, rfl, RF, hqf⟩, hb⟩)))
      go_wp2_with fail
      (try have hfx := FNe.fresh hqf RX.lt)
      (try have hfb := FNe.fresh hqf RB.lt)
      (try replace HSF := HSF.next hb)
      (try replace B3 := B3.below hb B3.lt)
      (try replace RX := RX.below hb)
      (try replace RB := RB.below hb)
      replace G1 := G1.below hb G1.lt
      clear HY
      have HY := cells5 G1
      replace HB0 := btr HB0 HB0.size hb
      replace HS := Nat.le_trans HS hb.size
      refine hK.out _ _ ?_ (fun hNew => ?_)
      · (first | exact HY | assumption)
      clear hK K hHeld
      have hHeld := hNew
      clear hNew
      try simp only [Act.put, List.setIfInBounds_toArray, List.set_cons_zero, List.set_cons_succ]
      refine wpAnyH_ready (rs := [5]) (by kernel_rfl) (by simp) ?_
      refine AllReadyH.cons (o := { dst := some 23, op := Op.call { callee := Callee.value (Operand.func 36), args := #[Operand.tmp 21, Operand.tmp 22], argTypes := #[48, 3] }, type := 48, pos := "chip.go:46", after := #[{ on := 3, ground := Ground.data }, { on := 4, ground := Ground.data }, { on := 2, ground := Ground.chain }], guard := none }) rfl (fun K hK => ?_) AllReadyH.nil
      go_simp
      (go_at_call 36; go_loud (((with_reducible refine (rptB_b 255 b3 NX _ B3 n1 n2).mono ?_); rintro e' wN ⟨gx, rfl, hqx, RX, hb⟩)))
      go_wp2_with fail
      have hgx := Nat.le_trans HS hqx
      (try have hxb := Nat.ne_of_gt (Nat.lt_of_lt_of_le RB.lt hqx))
      (try have hfx := RF.ne hqx)
      (try replace RF := RF.below_ hb)
      (try replace HSF := HSF.next hb)
      (try replace B3 := B3.below hb B3.lt)
      (try replace RB := RB.below hb)
      replace G1 := G1.below hb G1.lt
      clear HY
      have HY := cells5 G1
      replace HB0 := btr HB0 HB0.size hb
      replace HS := Nat.le_trans HS hb.size
      refine hK.out _ _ ?_ (fun hNew => ?_)
      · (first | exact HY | assumption)
      clear hK K hHeld
      have hHeld := hNew
      clear hNew
      try simp only [Act.put, List.setIfInBounds_toArray, List.set_cons_zero, List.set_cons_succ]
      refine wpAnyH_take (i := 9) (oi := { dst := some 27, op := Op.build 71 #[(0, Operand.tmp 18), (1, Operand.tmp 20), (2, Operand.tmp 23), (3, Operand.tmp 26), (6, Operand.const (Value.bool true))], type := 71, pos := "chip.go:43", after := #[{ on := 0, ground := Ground.data }, { on := 2, ground := Ground.data }, { on := 5, ground := Ground.data }, { on := 8, ground := Ground.data }], guard := none }) (v := ?_) rfl (by kernel_rfl) (by kernel_rfl) (by kernel_rfl) (fun _ _ _ h => h) (Or.inl ⟨by rfl, ?_⟩) (by assumption) ?_
      rotate_left
      · (intro wS hSw; (try dsimp only at hSw); go_simp; (try with_reducible rfl))
      try simp only [Act.put, List.setIfInBounds_toArray, List.set_cons_zero, List.set_cons_succ]
      refine wpAnyH_ready (rs := [10]) (by kernel_rfl) (by simp) ?_
      refine AllReadyH.cons (o := { dst := some 28, op := Op.box 71 (Operand.tmp 27), type := 27, pos := "chip.go:43", after := #[{ on := 9, ground := Ground.data }], guard := none }) rfl (fun K hK => ?_) AllReadyH.nil
      refine wp_boxF _ rfl rfl ?_
      intro wN m BM hqm hb
      have hm := Nat.le_trans HS hqm
      have h1 : m ≠ gx := Nat.ne_of_gt (Nat.lt_of_lt_of_le RX.lt hqm)
      have h2 : m ≠ gb := Nat.ne_of_gt (Nat.lt_of_lt_of_le RB.lt hqm)
      have hfm := RF.ne hqm
      (try replace RF := RF.below_ hb)
      (try replace HSF := HSF.next hb)
      (try replace B3 := B3.below hb B3.lt)
      (try replace RX := RX.below hb)
      (try replace RB := RB.below hb)
      replace G1 := G1.below hb G1.lt
      clear HY
      have HY := cells5 G1
      replace HB0 := btr HB0 HB0.size hb
      replace HS := Nat.le_trans HS hb.size
      refine hK.out _ _ ?_ (fun hNew => ?_)
      · (first | exact HY | assumption)
      clear hK K hHeld
      have hHeld := hNew
      clear hNew
      try simp only [Act.put, List.setIfInBounds_toArray, List.set_cons_zero, List.set_cons_succ]
      refine wpAnyH_take (i := 11) (oi := { dst := some 4, op := Op.assign (Operand.tmp 28), type := 27, pos := "chip.go:43", after := #[{ on := 10, ground := Ground.data }, { on := 5, ground := Ground.chain }, { on := 0, ground := Ground.phase }, { on := 1, ground := Ground.phase }, { on := 2, ground := Ground.phase }, { on := 3, ground := Ground.phase }, { on := 4, ground := Ground.phase }, { on := 5, ground := Ground.phase }, { on := 6, ground := Ground.phase }, { on := 7, ground := Ground.phase }, { on := 8, ground := Ground.phase }, { on := 9, ground := Ground.phase }, { on := 10, ground := Ground.phase }], guard := none }) (v := ?_) rfl (by kernel_rfl) (by kernel_rfl) (by kernel_rfl) (fun _ _ _ h => h) (Or.inl ⟨by rfl, ?_⟩) (by assumption) ?_
      rotate_left
      · (intro wS hSw; (try dsimp only at hSw); go_simp; (try with_reducible rfl))
      try simp only [Act.put, List.setIfInBounds_toArray, List.set_cons_zero, List.set_cons_succ]
      refine wpAnyH_done (by kernel_rfl) ?_ _
      refine NoPanic.normal ?_
      go_wp2_with fail
      go_ret
      refine ⟨⟨m, gx, gb, AF, cf, rfl, ⟨⟨NX, NB, NX, NB, by simp [ChS.new], hNB, Nat.le_refl _, BM⟩, by simpa [ChS.new, byteV] using RX, by simpa [ChS.new] using RB, RF.at_ hfm hfx hfb, h1, h2, hxb, (List.length_replicate ..).trans HLX.out, (List.length_replicate ..).trans HLK.out, rfl, HP.out⟩, by omega, by omega, by omega⟩, HB0⟩
  · refine wp_makeK _ _ rfl a NB rfl rfl hNB (by omega) ?_
    intro wN gb RB hqb hb
    have hgb := Nat.le_trans HS hqb
    (try have hxb := Nat.ne_of_lt (Nat.lt_of_lt_of_le RX.lt hqb))
    (try have hfb := RF.ne hqb)
    (try replace RF := RF.below_ hb)
    (try replace HSF := HSF.next hb)
    (try replace B3 := B3.below hb B3.lt)
    (try replace RX := RX.below hb)
    replace G1 := G1.below hb G1.lt
    clear HY
    have HY := cells5 G1
    replace HB0 := btr HB0 HB0.size hb
    replace HS := Nat.le_trans HS hb.size
    refine hK.out _ _ ?_ (fun hNew => ?_)
    · (first | exact HY | assumption)
    clear hK K hHeld
    have hHeld := hNew
    clear hNew
    try simp only [Act.put, List.setIfInBounds_toArray, List.set_cons_zero, List.set_cons_succ]
    refine wpAnyH_ready (rs := [2, 3]) (by kernel_rfl) (by simp) ?_
    refine (AllReadyH.cons (o := { dst := some 20, op := Op.call { callee := Callee.value (Operand.func 35), args := #[Operand.tmp 19], argTypes := #[24] }, type := 24, pos := "chip.go:45", after := #[{ on := 1, ground := Ground.data }], guard := none }) rfl (fun K hK => ?_) (AllReadyH.cons (o := { dst := some 21, op := Op.buildSlice 48 1 #[(0, Operand.const (Value.int IntKind.u8 255))], type := 48, pos := "chip.go:43", after := #[], guard := none }) rfl (fun K hK => ?_) AllReadyH.nil))
    · go_simp
      (go_at_call 35; go_loud (((with_reducible refine (fclone_any fs _ _ _ HSF hfl).mono ?_); rintro e' wN ⟨⟨AF, cf, rfl, RF, hqf⟩, hb⟩)))
      go_wp2_with fail
      (try have hfx := FNe.fresh hqf RX.lt)
      (try have hfb := FNe.fresh hqf RB.lt)
      (try replace HSF := HSF.next hb)
      (try replace B3 := B3.below hb B3.lt)
      (try replace RX := RX.below hb)
      (try replace RB := RB.below hb)
      replace G1 := G1.below hb G1.lt
      clear HY
      have HY := cells5 G1
      replace HB0 := btr HB0 HB0.size hb
      replace HS := Nat.le_trans HS hb.size
      refine hK.out _ _ ?_ (fun hNew => ?_)
      · (first | exact HY | assumption)
      clear hK K hHeld
      have hHeld := hNew
      clear hNew
      try simp only [Act.put, List.setIfInBounds_toArray, List.set_cons_zero, List.set_cons_succ]
      refine wpAnyH_ready (rs := [3]) (by kernel_rfl) (by simp) ?_
      refine AllReadyH.cons (o := { dst := some 21, op := Op.buildSlice 48 1 #[(0, Operand.const (Value.int IntKind.u8 255))], type := 48, pos := "chip.go:43", after := #[], guard := none }) rfl (fun K hK => ?_) AllReadyH.nil
      refine wp_build1b _ rfl 255 rfl ?_
      intro wN b3 B3 hq hb
      (try replace RF := RF.below_ hb)
      (try replace HSF := HSF.next hb)
      (try replace RX := RX.below hb)
      (try replace RB := RB.below hb)
      replace G1 := G1.below hb G1.lt
      clear HY
      have HY := cells5 G1
      replace HB0 := btr HB0 HB0.size hb
      replace HS := Nat.le_trans HS hb.size
      refine hK.out _ _ ?_ (fun hNew => ?_)
      · (first | exact HY | assumption)
      clear hK K hHeld
      have hHeld := hNew
      clear hNew
      try simp only [Act.put, List.setIfInBounds_toArray, List.set_cons_zero, List.set_cons_succ]
      refine wpAnyH_ready (rs := [5]) (by kernel_rfl) (by simp) ?_
      refine AllReadyH.cons (o := { dst := some 23, op := Op.call { callee := Callee.value (Operand.func 36), args := #[Operand.tmp 21, Operand.tmp 22], argTypes := #[48, 3] }, type := 48, pos := "chip.go:46", after := #[{ on := 3, ground := Ground.data }, { on := 4, ground := Ground.data }, { on := 2, ground := Ground.chain }], guard := none }) rfl (fun K hK => ?_) AllReadyH.nil
      go_simp
      (go_at_call 36; go_loud (((with_reducible refine (rptB_b 255 b3 NX _ B3 n1 n2).mono ?_); rintro e' wN ⟨gx, rfl, hqx, RX, hb⟩)))
      go_wp2_with fail
      have hgx := Nat.le_trans HS hqx
      (try have hxb := Nat.ne_of_gt (Nat.lt_of_lt_of_le RB.lt hqx))
      (try have hfx := RF.ne hqx)
      (try replace RF := RF.below_ hb)
      (try replace HSF := HSF.next hb)
      (try replace B3 := B3.below hb B3.lt)
      (try replace RB := RB.below hb)
      replace G1 := G1.below hb G1.lt
      clear HY
      have HY := cells5 G1
      replace HB0 := btr HB0 HB0.size hb
      replace HS := Nat.le_trans HS hb.size
      refine hK.out _ _ ?_ (fun hNew => ?_)
      · (first | exact HY | assumption)
      clear hK K hHeld
      have hHeld := hNew
      clear hNew
      try simp only [Act.put, List.setIfInBounds_toArray, List.set_cons_zero, List.set_cons_succ]
      refine wpAnyH_take (i := 9) (oi := { dst := some 27, op := Op.build 71 #[(0, Operand.tmp 18), (1, Operand.tmp 20), (2, Operand.tmp 23), (3, Operand.tmp 26), (6, Operand.const (Value.bool true))], type := 71, pos := "chip.go:43", after := #[{ on := 0, ground := Ground.data }, { on := 2, ground := Ground.data }, { on := 5, ground := Ground.data }, { on := 8, ground := Ground.data }], guard := none }) (v := ?_) rfl (by kernel_rfl) (by kernel_rfl) (by kernel_rfl) (fun _ _ _ h => h) (Or.inl ⟨by rfl, ?_⟩) (by assumption) ?_
      rotate_left
      · (intro wS hSw; (try dsimp only at hSw); go_simp; (try with_reducible rfl))
      try simp only [Act.put, List.setIfInBounds_toArray, List.set_cons_zero, List.set_cons_succ]
      refine wpAnyH_ready (rs := [10]) (by kernel_rfl) (by simp) ?_
      refine AllReadyH.cons (o := { dst := some 28, op := Op.box 71 (Operand.tmp 27), type := 27, pos := "chip.go:43", after := #[{ on := 9, ground := Ground.data }], guard := none }) rfl (fun K hK => ?_) AllReadyH.nil
      refine wp_boxF _ rfl rfl ?_
      intro wN m BM hqm hb
      have hm := Nat.le_trans HS hqm
      have h1 : m ≠ gx := Nat.ne_of_gt (Nat.lt_of_lt_of_le RX.lt hqm)
      have h2 : m ≠ gb := Nat.ne_of_gt (Nat.lt_of_lt_of_le RB.lt hqm)
      have hfm := RF.ne hqm
      (try replace RF := RF.below_ hb)
      (try replace HSF := HSF.next hb)
      (try replace B3 := B3.below hb B3.lt)
      (try replace RX := RX.below hb)
      (try replace RB := RB.below hb)
      replace G1 := G1.below hb G1.lt
      clear HY
      have HY := cells5 G1
      replace HB0 := btr HB0 HB0.size hb
      replace HS := Nat.le_trans HS hb.size
      refine hK.out _ _ ?_ (fun hNew => ?_)
      · (first | exact HY | assumption)
      clear hK K hHeld
      have hHeld := hNew
      clear hNew
      try simp only [Act.put, List.setIfInBounds_toArray, List.set_cons_zero, List.set_cons_succ]
      refine wpAnyH_take (i := 11) (oi := { dst := some 4, op := Op.assign (Operand.tmp 28), type := 27, pos := "chip.go:43", after := #[{ on := 10, ground := Ground.data }, { on := 5, ground := Ground.chain }, { on := 0, ground := Ground.phase }, { on := 1, ground := Ground.phase }, { on := 2, ground := Ground.phase }, { on := 3, ground := Ground.phase }, { on := 4, ground := Ground.phase }, { on := 5, ground := Ground.phase }, { on := 6, ground := Ground.phase }, { on := 7, ground := Ground.phase }, { on := 8, ground := Ground.phase }, { on := 9, ground := Ground.phase }, { on := 10, ground := Ground.phase }], guard := none }) (v := ?_) rfl (by kernel_rfl) (by kernel_rfl) (by kernel_rfl) (fun _ _ _ h => h) (Or.inl ⟨by rfl, ?_⟩) (by assumption) ?_
      rotate_left
      · (intro wS hSw; (try dsimp only at hSw); go_simp; (try with_reducible rfl))
      try simp only [Act.put, List.setIfInBounds_toArray, List.set_cons_zero, List.set_cons_succ]
      refine wpAnyH_done (by kernel_rfl) ?_ _
      refine NoPanic.normal ?_
      go_wp2_with fail
      go_ret
      refine ⟨⟨m, gx, gb, AF, cf, rfl, ⟨⟨NX, NB, NX, NB, by simp [ChS.new], hNB, Nat.le_refl _, BM⟩, by simpa [ChS.new, byteV] using RX, by simpa [ChS.new] using RB, RF.at_ hfm hfx hfb, h1, h2, hxb, (List.length_replicate ..).trans HLX.out, (List.length_replicate ..).trans HLK.out, rfl, HP.out⟩, by omega, by omega, by omega⟩, HB0⟩
    · refine wp_build1b _ rfl 255 rfl ?_
      intro wN b3 B3 hq hb
      (try replace RF := RF.below_ hb)
      (try replace HSF := HSF.next hb)
      (try replace RX := RX.below hb)
      (try replace RB := RB.below hb)
      replace G1 := G1.below hb G1.lt
      clear HY
      have HY := cells5 G1
      replace HB0 := btr HB0 HB0.size hb
      replace HS := Nat.le_trans HS hb.size
      refine hK.out _ _ ?_ (fun hNew => ?_)
      · (first | exact HY | assumption)
      clear hK K hHeld
      have hHeld := hNew
      clear hNew
      try simp only [Act.put, List.setIfInBounds_toArray, List.set_cons_zero, List.set_cons_succ]
      refine wpAnyH_ready (rs := [2]) (by kernel_rfl) (by simp) ?_
      refine AllReadyH.cons (o := { dst := some 20, op := Op.call { callee := Callee.value (Operand.func 35), args := #[Operand.tmp 19], argTypes := #[24] }, type := 24, pos := "chip.go:45", after := #[{ on := 1, ground := Ground.data }], guard := none }) rfl (fun K hK => ?_) AllReadyH.nil
      go_simp
      (go_at_call 35; go_loud (((with_reducible refine (fclone_any fs _ _ _ HSF hfl).mono ?_); rintro e' wN ⟨⟨AF, cf, rfl, RF, hqf⟩, hb⟩)))
      go_wp2_with fail
      (try have hfx := FNe.fresh hqf RX.lt)
      (try have hfb := FNe.fresh hqf RB.lt)
      (try replace HSF := HSF.next hb)
      (try replace B3 := B3.below hb B3.lt)
      (try replace RX := RX.below hb)
      (try replace RB := RB.below hb)
      replace G1 := G1.below hb G1.lt
      clear HY
      have HY := cells5 G1
      replace HB0 := btr HB0 HB0.size hb
      replace HS := Nat.le_trans HS hb.size
      refine hK.out _ _ ?_ (fun hNew => ?_)
      · (first | exact HY | assumption)
      clear hK K hHeld
      have hHeld := hNew
      clear hNew
      try simp only [Act.put, List.setIfInBounds_toArray, List.set_cons_zero, List.set_cons_succ]
      refine wpAnyH_ready (rs := [5]) (by kernel_rfl) (by simp) ?_
      refine AllReadyH.cons (o := { dst := some 23, op := Op.call { callee := Callee.value (Operand.func 36), args := #[Operand.tmp 21, Operand.tmp 22], argTypes := #[48, 3] }, type := 48, pos := "chip.go:46", after := #[{ on := 3, ground := Ground.data }, { on := 4, ground := Ground.data }, { on := 2, ground := Ground.chain }], guard := none }) rfl (fun K hK => ?_) AllReadyH.nil
      go_simp
      (go_at_call 36; go_loud (((with_reducible refine (rptB_b 255 b3 NX _ B3 n1 n2).mono ?_); rintro e' wN ⟨gx, rfl, hqx, RX, hb⟩)))
      go_wp2_with fail
      have hgx := Nat.le_trans HS hqx
      (try have hxb := Nat.ne_of_gt (Nat.lt_of_lt_of_le RB.lt hqx))
      (try have hfx := RF.ne hqx)
      (try replace RF := RF.below_ hb)
      (try replace HSF := HSF.next hb)
      (try replace B3 := B3.below hb B3.lt)
      (try replace RB := RB.below hb)
      replace G1 := G1.below hb G1.lt
      clear HY
      have HY := cells5 G1
      replace HB0 := btr HB0 HB0.size hb
      replace HS := Nat.le_trans HS hb.size
      refine hK.out _ _ ?_ (fun hNew => ?_)
      · (first | exact HY | assumption)
      clear hK K hHeld
      have hHeld := hNew
      clear hNew
      try simp only [Act.put, List.setIfInBounds_toArray, List.set_cons_zero, List.set_cons_succ]
      refine wpAnyH_take (i := 9) (oi := { dst := some 27, op := Op.build 71 #[(0, Operand.tmp 18), (1, Operand.tmp 20), (2, Operand.tmp 23), (3, Operand.tmp 26), (6, Operand.const (Value.bool true))], type := 71, pos := "chip.go:43", after := #[{ on := 0, ground := Ground.data }, { on := 2, ground := Ground.data }, { on := 5, ground := Ground.data }, { on := 8, ground := Ground.data }], guard := none }) (v := ?_) rfl (by kernel_rfl) (by kernel_rfl) (by kernel_rfl) (fun _ _ _ h => h) (Or.inl ⟨by rfl, ?_⟩) (by assumption) ?_
      rotate_left
      · (intro wS hSw; (try dsimp only at hSw); go_simp; (try with_reducible rfl))
      try simp only [Act.put, List.setIfInBounds_toArray, List.set_cons_zero, List.set_cons_succ]
      refine wpAnyH_ready (rs := [10]) (by kernel_rfl) (by simp) ?_
      refine AllReadyH.cons (o := { dst := some 28, op := Op.box 71 (Operand.tmp 27), type := 27, pos := "chip.go:43", after := #[{ on := 9, ground := Ground.data }], guard := none }) rfl (fun K hK => ?_) AllReadyH.nil
      refine wp_boxF _ rfl rfl ?_
      intro wN m BM hqm hb
      have hm := Nat.le_trans HS hqm
      have h1 : m ≠ gx := Nat.ne_of_gt (Nat.lt_of_lt_of_le RX.lt hqm)
      have h2 : m ≠ gb := Nat.ne_of_gt (Nat.lt_of_lt_of_le RB.lt hqm)
      have hfm := RF.ne hqm
      (try replace RF := RF.below_ hb)
      (try replace HSF := HSF.next hb)
      (try replace B3 := B3.below hb B3.lt)
      (try replace RX := RX.below hb)
      (try replace RB := RB.below hb)
      replace G1 := G1.below hb G1.lt
      clear HY
      have HY := cells5 G1
      replace HB0 := btr HB0 HB0.size hb
      replace HS := Nat.le_trans HS hb.size
      refine hK.out _ _ ?_ (fun hNew => ?_)
      · (first | exact HY | assumption)
      clear hK K hHeld
      have hHeld := hNew
      clear hNew
      try simp only [Act.put, List.setIfInBounds_toArray, List.set_cons_zero, List.set_cons_succ]
      refine wpAnyH_take (i := 11) (oi := { dst := some 4, op := Op.assign (Operand.tmp 28), type := 27, pos := "chip.go:43", after := #[{ on := 10, ground := Ground.data }, { on := 5, ground := Ground.chain }, { on := 0, ground := Ground.phase }, { on := 1, ground := Ground.phase }, { on := 2, ground := Ground.phase }, { on := 3, ground := Ground.phase }, { on := 4, ground := Ground.phase }, { on := 5, ground := Ground.phase }, { on := 6, ground := Ground.phase }, { on := 7, ground := Ground.phase }, { on := 8, ground := Ground.phase }, { on := 9, ground := Ground.phase }, { on := 10, ground := Ground.phase }], guard := none }) (v := ?_) rfl (by kernel_rfl) (by kernel_rfl) (by kernel_rfl) (fun _ _ _ h => h) (Or.inl ⟨by rfl, ?_⟩) (by assumption) ?_
      rotate_left
      · (intro wS hSw; (try dsimp only at hSw); go_simp; (try with_reducible rfl))
      try simp only [Act.put, List.setIfInBounds_toArray, List.set_cons_zero, List.set_cons_succ]
      refine wpAnyH_done (by kernel_rfl) ?_ _
      refine NoPanic.normal ?_
      go_wp2_with fail
      go_ret
      refine ⟨⟨m, gx, gb, AF, cf, rfl, ⟨⟨NX, NB, NX, NB, by simp [ChS.new], hNB, Nat.le_refl _, BM⟩, by simpa [ChS.new, byteV] using RX, by simpa [ChS.new] using RB, RF.at_ hfm hfx hfb, h1, h2, hxb, (List.length_replicate ..).trans HLX.out, (List.length_replicate ..).trans HLK.out, rfl, HP.out⟩, by omega, by omega, by omega⟩, HB0⟩
end Go.Proofs.Ytplniojeaodjiaa
