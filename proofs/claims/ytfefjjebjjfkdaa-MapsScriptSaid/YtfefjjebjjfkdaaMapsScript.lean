/- MapsScript: the walk. -/
import Derived.Test.YtfefjjebjjfkdaaMapRE
import Derived.Test.YtfefjjebjjfkdaaMapsTurn
import Derived.Deep.CutBlock
namespace Go.Proofs.Ytfefjjebjjfkdaa
open Go.ChangeShapes Go.WideShapes Go.ChangeAt Go.RowKit
set_option linter.unusedSimpArgs false
set_option linter.unusedVariables false

theorem undrew1 {w w' : World} (h : Below w.drew.heap.size w.drew w') : Below w.heap.size w w' := ⟨h.os, h.tape, h.output, h.size, h.block⟩
theorem undrewT {g1 g2 : Nat} {w w' : World} (h : Touch g1 g2 w.drew w') : Touch g1 g2 w w' := ⟨h.size, h.far, fun B h1 h2 h3 => (fun k : Below B w.drew w' => ⟨k.os, k.tape, k.output, k.size, k.block⟩) (h.bel B h1 h2 h3)⟩
theorem undrewT1 {g1 : Nat} {w w' : World} (h : Touch1 g1 w.drew w') : Touch1 g1 w w' := ⟨h.size, h.far, fun B h1 h3 => (fun k : Below B w.drew w' => ⟨k.os, k.tape, k.output, k.size, k.block⟩) (h.bel B h1 h3)⟩
theorem own_drew {w : World} {base : Nat} {e : TypeId} {size n : Nat} {v : Value} {xs : List Value} (h : w.ownsRow base e size v n xs) : w.drew.ownsRow base e size v n xs := own_below h ((Below.refl _ _).drew)
theorem Sl.drewS {w : World} {A : Option Addr} {vs : List Value} (h : Sl w w.heap.size A vs) : Sl w.drew w.drew.heap.size A vs := h
theorem cells5 {w : World} {g : Nat} {t : TypeId} {u0 u1 u2 u3 u4 : Value} (h : Blk w g t #[u0, u1, u2, u3, u4]) : w.cell? ⟨g, 0, none⟩ = some u0 ∧ w.cell? ⟨g, 1, none⟩ = some u1 ∧ w.cell? ⟨g, 2, none⟩ = some u2 ∧ w.cell? ⟨g, 3, none⟩ = some u3 ∧ w.cell? ⟨g, 4, none⟩ = some u4 := ⟨h.cell_ 0, h.cell_ 1, h.cell_ 2, h.cell_ 3, h.cell_ 4⟩
theorem cells4 {w : World} {g : Nat} {t : TypeId} {u0 u1 u2 u3 : Value} (h : Blk w g t #[u0, u1, u2, u3]) : w.cell? ⟨g, 0, none⟩ = some u0 ∧ w.cell? ⟨g, 1, none⟩ = some u1 ∧ w.cell? ⟨g, 2, none⟩ = some u2 ∧ w.cell? ⟨g, 3, none⟩ = some u3 := ⟨h.cell_ 0, h.cell_ 1, h.cell_ 2, h.cell_ 3⟩
theorem MapW.likeB {w w1 w' : World} {m g1 g2 : Nat} {a b c d e : Int} {L N : Nat} {A W : List Int} (h : MapW w m g1 g2 a b c d e L N A W) (hb : Below w1.heap.size w1 w') (he : w1.heap = w.heap := by rfl) : MapW w' m g1 g2 a b c d e L N A W :=
  (h.like he).below hb
theorem RefW.likeB {w w1 w' : World} {r g : Nat} {a b c d e : Int} {L : Nat} {A : List Int} (h : RefW w r g a b c d e L A) (hb : Below w1.heap.size w1 w') (he : w1.heap = w.heap := by rfl) : RefW w' r g a b c d e L A :=
  (h.like he).below hb
theorem RefW.touch {w w' : World} {r g g1 g2 : Nat} {a b c d e : Int} {L : Nat} {A : List Int} (h : RefW w r g a b c d e L A) (hT : Touch g1 g2 w w') (h1 : r ≠ g1) (h2 : r ≠ g2) (h3 : g ≠ g1) (h4 : g ≠ g2) : RefW w' r g a b c d e L A :=
  h.keep (hT.far _ h.lt.1 h1 h2) (hT.far _ h.lt.2 h3 h4)
theorem MapW.touch1 {w w' : World} {m g1 g2 g : Nat} {a b c d e : Int} {L N : Nat} {A W : List Int} (h : MapW w m g1 g2 a b c d e L N A W) (hT : Touch1 g w w') (h1 : m ≠ g) (h2 : g1 ≠ g) (h3 : g2 ≠ g) : MapW w' m g1 g2 a b c d e L N A W :=
  h.keep (hT.far _ h.lt.1 h1) (hT.far _ h.lt.2.1 h2) (hT.far _ h.lt.2.2 h3)
theorem Touch.blk {w w' : World} {g g1 g2 : Nat} {t : TypeId} {cs : Array Value} (hT : Touch g1 g2 w w') (h : Blk w g t cs) (h1 : g ≠ g1) (h2 : g ≠ g2) : Blk w' g t cs := (hT.far _ h.lt h1 h2).trans h
theorem Touch1.blk {w w' : World} {g g1 : Nat} {t : TypeId} {cs : Array Value} (hT : Touch1 g1 w w') (h : Blk w g t cs) (h1 : g ≠ g1) : Blk w' g t cs := (hT.far _ h.lt h1).trans h
theorem new_bb (a b c d e : Int) (L N : Nat) (w : World) (HM : Hid (mayB a b c d e = true)) (HLOG : Hid (logicalI a b d = (L : Int))) (hab : (N : Int) = a * b) (n1 : 1 ≤ L) (n2 : L ≤ 1000) (m1 : 1 ≤ N) (m2 : N ≤ 1000) :
    Calls Try.prog 7 #[.agg #[.int .i64 a, .int .i64 b, .int .i64 c, .int .i64 d, .int .i64 e]] w fun e' w' => (∃ m g1 g2, e' = .returned (.pointer (some ⟨m, 0, none⟩)) ∧ MapW w' m g1 g2 a b c d e L N (List.replicate L (-1)) (List.replicate N (-1)) ∧ w.heap.size ≤ m ∧ w.heap.size ≤ g1 ∧ w.heap.size ≤ g2) ∧ Below w.heap.size w w' :=
  new_yes a b c d e L N w HM HLOG hab n1 n2 m1 m2
theorem sizes_ok {a b c d e : Int} (HM : Hid (mayB a b c d e = true)) : ∃ L N : Nat, logicalI a b d = (L : Int) ∧ (N : Int) = a * b ∧ 1 ≤ L ∧ L ≤ 1000 ∧ 1 ≤ N ∧ N ≤ 1000 := by
  have hbd := may_bd HM.out
  obtain ⟨p1, p2⟩ := mul_bd (x := a) (y := b) (lo := 0) (hi := 20) (by omega) (by omega) hbd.2.2.1 hbd.2.2.2.1 (by omega) (by omega)
  have hN1 : a * 4 ≤ a * b := Int.mul_le_mul_of_nonneg_left hbd.2.2.1 (by omega)
  have hl : logicalI a b d ≤ 100 := by
    obtain ⟨q1, q2⟩ := mul_bd (x := a - d - 3) (y := b) (lo := 1) (hi := 17) (by omega) (by omega) hbd.2.2.1 hbd.2.2.2.1 (by omega) (by omega)
    unfold logicalI
    omega
  exact ⟨(logicalI a b d).toNat, (a * b).toNat, by omega, by omega, by omega, by omega, by omega, by omega⟩
theorem atV (b : Int) (A : List Int) (p : Int) : ∃ (u1 u2 : Int) (ab : Bool), atT b A p = .tuple #[.agg #[.int .i64 u1, .int .i64 u2], .bool ab] := by
  unfold atT
  split
  · exact ⟨_, _, _, rfl⟩
  · exact ⟨_, _, _, rfl⟩
theorem rplace_b (r g : Nat) (a b c d e : Int) (L N : Nat) (A W : List Int) (p : Int) (TT : Value) (w : World) (hM : RefW w r g a b c d e L A) (hI : InvM N A W) (HM : Hid (mayB a b c d e = true)) (hL : L ≤ 1000) (hN : N ≤ 1000) (hT : atT b A p = TT) :
    Calls Try.prog 15 #[.pointer (some ⟨r, 0, none⟩), .int .i64 p] w fun e' w' => e' = .returned TT ∧ Below w.heap.size w w' := by
  have := rplace_any r g a b c d e L N A W p w hM hI HM hL hN
  rwa [hT] at this
theorem rlive_b (r g : Nat) (a b c d e : Int) (L N : Nat) (A W : List Int) (x : Int) (K : Nat) (w : World) (hM : RefW w r g a b c d e L A) (hI : InvM N A W) (HM : Hid (mayB a b c d e = true)) (hL : L ≤ 1000) (hN : N ≤ 1000) (hab : (N : Int) = a * b) (hk : liveF a b A x b.toNat = K) :
    Calls Try.prog 20 #[.pointer (some ⟨r, 0, none⟩), .int .i64 x] w fun e' w' => e' = .returned (.int .i64 (K : Int)) ∧ Below w.heap.size w w' := by
  have hbd := may_bd HM.out
  have := rlive_any r g a b c d e L N A W x w hM hI (by omega) (by omega) hL hN
  rwa [liveR_eq hI hM.len (by omega) (by omega) hab, hk] at this
theorem pages_o (m g1 g2 : Nat) (a b c d e : Int) (L N : Nat) (A W : List Int) (ps : List Int) (k : Nat) (w : World) (hM : MapW w m g1 g2 a b c d e L N A W) (hL : L ≤ 1000) (hp : pagesF A L = ps) (hk : ps.length = k) :
    Calls Try.prog 18 #[.pointer (some ⟨m, 0, none⟩)] w fun e' w' => ∃ A' c', e' = .returned (.slice A' k c') ∧ w'.ownsRow w.heap.size 3 1 (.slice A' k c') k (ps.map (Value.int .i64)) ∧ Below w.heap.size w w' := by
  refine (pages_any m g1 g2 a b c d e L N A W w hM hL).mono ?_
  rintro e' w' ⟨⟨v, rfl, ho⟩, hb⟩
  rw [hp, hk] at ho
  obtain ⟨A', c', rfl, -, -, -, hS⟩ := own_sliceV ho
  exact ⟨A', c', rfl, ho, hb⟩
theorem rpages_b (r g : Nat) (a b c d e : Int) (L N : Nat) (A W : List Int) (ps : List Int) (k : Nat) (w : World) (hM : RefW w r g a b c d e L A) (hI : InvM N A W) (hL : L ≤ 1000) (hN : N ≤ 1000) (hp : pagesF A L = ps) (hk : ps.length = k) :
    Calls Try.prog 22 #[.pointer (some ⟨r, 0, none⟩)] w fun e' w' => ∃ A' c', e' = .returned (.slice A' k c') ∧ Sl w' w'.heap.size A' (ps.map (Value.int .i64)) ∧ Below w.heap.size w w' := by
  refine (rpages_any r g a b c d e L N A W w hM hI hL hN).mono ?_
  rintro e' w' ⟨⟨v, rfl, ho⟩, hb⟩
  rw [hp, hk] at ho
  obtain ⟨A', c', rfl, -, -, -, hS⟩ := own_sliceV ho
  exact ⟨A', c', rfl, hS, hb⟩
set_option maxRecDepth 100000 in
set_option maxHeartbeats 8000000 in
theorem mscript_walk (a b c d e : Int) (A1 : Option Addr) (n k1 : Nat) (es : List (List Value)) (w : World) (_ : i64in a ∧ i64in b ∧ i64in c ∧ i64in d ∧ i64in e) (r1 : n = es.length ∧ n ≤ k1 ∧ k1 ≤ maxLen ∧ SlE 4 w w.heap.size A1 es ∧ ∀ x ∈ es, Flat ActF x) :
    Calls Try.prog 3 #[.agg #[.int .i64 a, .int .i64 b, .int .i64 c, .int .i64 d, .int .i64 e], .slice A1 n k1] w fun e' w' => e' = .returned (.bool true) ∧ Below w.heap.size w w' := by
  obtain ⟨e1, _, _, hs, hw⟩ := r1
  have HL : Hid (es.length = n) := Lib.hid e1.symm
  have HW := Lib.hid hw
  clear e1 hw
  have HB0 : Below w.heap.size w (w.alloc (.cells #[.int .i64 a, .int .i64 b, .int .i64 c, .int .i64 d, .int .i64 e] 23)) := (Below.refl _ _).alloc (Nat.le_refl _) _
  have G1 : Blk (w.alloc (.cells #[.int .i64 a, .int .i64 b, .int .i64 c, .int .i64 d, .int .i64 e] 23)) w.heap.size 23 #[.int .i64 a, .int .i64 b, .int .i64 c, .int .i64 d, .int .i64 e] := Blk.new_ _ _ _
  have HY := cells5 G1
  by_cases hn : 80 < n
  · have gn : (80 : Int) < (n : Int) := by omega
    clear hs G1 hn HY
    go_enter Try.func3, Try.ntmps3
    go_wp2_with (go_at_call 6; ((with_reducible refine (awake_any _).mono ?_); rintro e' wN ⟨rfl, hb⟩; have HB0 := btr HB0 HB0.size hb))
    go_ret
    exact ⟨rfl, HB0⟩
  have gn : ¬ (80 : Int) < (n : Int) := by omega
  rcases (by cases hq : mayB a b c d e <;> simp : mayB a b c d e = false ∨ mayB a b c d e = true) with hm | hm
  · have HM := Lib.hid hm
    clear hs hm
    go_enter Try.func3, Try.ntmps3
    go_upto_region 3 with fail
    refine wp_region_noPanic ?_
    refine wp_region_held_drew (S := (fun w' => w'.cell? ⟨w.heap.size, 0, none⟩ = some (.int .i64 a) ∧ w'.cell? ⟨w.heap.size, 1, none⟩ = some (.int .i64 b) ∧ w'.cell? ⟨w.heap.size, 2, none⟩ = some (.int .i64 c) ∧ w'.cell? ⟨w.heap.size, 3, none⟩ = some (.int .i64 d) ∧ w'.cell? ⟨w.heap.size, 4, none⟩ = some (.int .i64 e))) (by kernel_rfl) ?_ (fun hHeld => ?_)
    · (first | exact HY | assumption)
    refine wpAnyH_take (i := 0) (oi := { dst := some 25, op := Op.load 23 (Operand.tmp 2), type := 23, pos := "law.go:47", after := #[], guard := none }) (v := ?_) rfl (by kernel_rfl) (by kernel_rfl) (by kernel_rfl) (fun _ _ _ h => h) (Or.inl ⟨by rfl, ?_⟩) (by assumption) ?_
    rotate_left
    · (intro wS hSw; (try dsimp only at hSw); go_simp; (try with_reducible rfl))
    try simp only [Act.put, List.setIfInBounds_toArray, List.set_cons_zero, List.set_cons_succ]
    refine wpAnyH_take (i := 2) (oi := { dst := some 27, op := Op.load 23 (Operand.tmp 2), type := 23, pos := "law.go:47", after := #[], guard := none }) (v := ?_) rfl (by kernel_rfl) (by kernel_rfl) (by kernel_rfl) (fun _ _ _ h => h) (Or.inl ⟨by rfl, ?_⟩) (by assumption) ?_
    rotate_left
    · (intro wS hSw; (try dsimp only at hSw); go_simp; (try with_reducible rfl))
    try simp only [Act.put, List.setIfInBounds_toArray, List.set_cons_zero, List.set_cons_succ]
    refine wpAnyH_ready (rs := [1]) (by kernel_rfl) (by simp) ?_
    refine AllReadyH.cons (o := { dst := some 26, op := Op.call { callee := Callee.value (Operand.func 7), args := #[Operand.tmp 25], argTypes := #[23] }, type := 26, pos := "law.go:47", after := #[{ on := 0, ground := Ground.data }], guard := none }) rfl (fun K hK => ?_) AllReadyH.nil
    go_simp
    (first
        | (go_at_call 7; ((with_reducible refine (new_no _ _ _ _ _ _ HM.out).mono ?_); rintro e' wN ⟨rfl, hb⟩; (try have hb := undrew1 hb); have HB0 := btr HB0 HB0.size hb; have G1 := G1.below hb G1.lt; clear HY; have HY := cells5 G1))
        | (go_at_call 8; ((with_reducible refine (rnew_no _ _ _ _ _ _ HM).mono ?_); rintro e' wN ⟨rfl, hb⟩; (try have hb := undrew1 hb); have HB0 := btr HB0 HB0.size hb; have G1 := G1.below hb G1.lt; clear HY; have HY := cells5 G1)))
    go_wp2_with fail
    refine hK.out _ _ ?_ (fun hNew => ?_)
    · (first | exact HY | assumption)
    clear hK K hHeld
    have hHeld := hNew
    clear hNew
    try simp only [Act.put, List.setIfInBounds_toArray, List.set_cons_zero, List.set_cons_succ]
    refine wpAnyH_ready (rs := [3]) (by kernel_rfl) (by simp) ?_
    refine AllReadyH.cons (o := { dst := some 28, op := Op.call { callee := Callee.value (Operand.func 8), args := #[Operand.tmp 27], argTypes := #[23] }, type := 28, pos := "law.go:47", after := #[{ on := 2, ground := Ground.data }, { on := 1, ground := Ground.chain }], guard := none }) rfl (fun K hK => ?_) AllReadyH.nil
    go_simp
    (first
        | (go_at_call 7; ((with_reducible refine (new_no _ _ _ _ _ _ HM.out).mono ?_); rintro e' wN ⟨rfl, hb⟩; (try have hb := undrew1 hb); have HB0 := btr HB0 HB0.size hb; have G1 := G1.below hb G1.lt; clear HY; have HY := cells5 G1))
        | (go_at_call 8; ((with_reducible refine (rnew_no _ _ _ _ _ _ HM).mono ?_); rintro e' wN ⟨rfl, hb⟩; (try have hb := undrew1 hb); have HB0 := btr HB0 HB0.size hb; have G1 := G1.below hb G1.lt; clear HY; have HY := cells5 G1)))
    go_wp2_with fail
    refine hK.out _ _ ?_ (fun hNew => ?_)
    · (first | exact HY | assumption)
    clear hK K hHeld
    have hHeld := hNew
    clear hNew
    try simp only [Act.put, List.setIfInBounds_toArray, List.set_cons_zero, List.set_cons_succ]
    refine wpAnyH_take (i := 4) (oi := { dst := some 5, op := Op.assign (Operand.tmp 26), type := 26, pos := "law.go:47", after := #[{ on := 1, ground := Ground.data }, { on := 3, ground := Ground.chain }, { on := 0, ground := Ground.phase }, { on := 1, ground := Ground.phase }, { on := 2, ground := Ground.textOnly Departure.lateStores }, { on := 3, ground := Ground.textOnly Departure.lateStoresUnsure }], guard := none }) (v := ?_) rfl (by kernel_rfl) (by kernel_rfl) (by kernel_rfl) (fun _ _ _ h => h) (Or.inl ⟨by rfl, ?_⟩) (by assumption) ?_
    rotate_left
    · (intro wS hSw; (try dsimp only at hSw); go_simp; (try with_reducible rfl))
    try simp only [Act.put, List.setIfInBounds_toArray, List.set_cons_zero, List.set_cons_succ]
    refine wpAnyH_take (i := 5) (oi := { dst := some 6, op := Op.assign (Operand.tmp 28), type := 28, pos := "law.go:47", after := #[{ on := 3, ground := Ground.data }, { on := 4, ground := Ground.chain }, { on := 0, ground := Ground.phase }, { on := 1, ground := Ground.phase }, { on := 2, ground := Ground.phase }, { on := 3, ground := Ground.phase }, { on := 4, ground := Ground.phase }], guard := none }) (v := ?_) rfl (by kernel_rfl) (by kernel_rfl) (by kernel_rfl) (fun _ _ _ h => h) (Or.inl ⟨by rfl, ?_⟩) (by assumption) ?_
    rotate_left
    · (intro wS hSw; (try dsimp only at hSw); go_simp; (try with_reducible rfl))
    try simp only [Act.put, List.setIfInBounds_toArray, List.set_cons_zero, List.set_cons_succ]
    refine wpAnyH_done (by kernel_rfl) ?_ _
    refine NoPanic.normal ?_
    go_wp2_with (go_at_call 6; ((with_reducible refine (awake_any _).mono ?_); rintro e' wN ⟨rfl, hb⟩; have HB0 := btr HB0 HB0.size hb))
    go_ret
    exact ⟨rfl, HB0⟩
  have HM := Lib.hid hm
  clear hm
  obtain ⟨L, N, hlog, hab, L1, L2, N1, N2⟩ := sizes_ok HM
  have HLOG := Lib.hid hlog
  have HAB := Lib.hid hab
  have hbd := may_bd HM.out
  obtain ⟨b4, b8⟩ : 4 ≤ b ∧ b ≤ 8 := ⟨hbd.2.2.1, hbd.2.2.2.1⟩
  obtain ⟨a8, a20⟩ : 8 ≤ a ∧ a ≤ 20 := ⟨hbd.1, hbd.2.1⟩
  clear hbd hlog hab
  have hbl : w.heap.size < (w.alloc (.cells #[.int .i64 a, .int .i64 b, .int .i64 c, .int .i64 d, .int .i64 e] 23)).heap.size := by simp
  obtain ⟨B, hB⟩ : ∃ B, (w.alloc (.cells #[.int .i64 a, .int .i64 b, .int .i64 c, .int .i64 d, .int .i64 e] 23)).heap.size = B := ⟨_, rfl⟩
  go_enter Try.func3, Try.ntmps3
  go_upto_region 3 with fail
  refine wp_region_noPanic ?_
  refine wp_region_held_drew (S := (fun w' => w'.cell? ⟨w.heap.size, 0, none⟩ = some (.int .i64 a) ∧ w'.cell? ⟨w.heap.size, 1, none⟩ = some (.int .i64 b) ∧ w'.cell? ⟨w.heap.size, 2, none⟩ = some (.int .i64 c) ∧ w'.cell? ⟨w.heap.size, 3, none⟩ = some (.int .i64 d) ∧ w'.cell? ⟨w.heap.size, 4, none⟩ = some (.int .i64 e))) (by kernel_rfl) ?_ (fun hHeld => ?_)
  · (first | exact HY | assumption)
  refine wpAnyH_take (i := 0) (oi := { dst := some 25, op := Op.load 23 (Operand.tmp 2), type := 23, pos := "law.go:47", after := #[], guard := none }) (v := ?_) rfl (by kernel_rfl) (by kernel_rfl) (by kernel_rfl) (fun _ _ _ h => h) (Or.inl ⟨by rfl, ?_⟩) (by assumption) ?_
  rotate_left
  · (intro wS hSw; (try dsimp only at hSw); go_simp; (try with_reducible rfl))
  try simp only [Act.put, List.setIfInBounds_toArray, List.set_cons_zero, List.set_cons_succ]
  refine wpAnyH_take (i := 2) (oi := { dst := some 27, op := Op.load 23 (Operand.tmp 2), type := 23, pos := "law.go:47", after := #[], guard := none }) (v := ?_) rfl (by kernel_rfl) (by kernel_rfl) (by kernel_rfl) (fun _ _ _ h => h) (Or.inl ⟨by rfl, ?_⟩) (by assumption) ?_
  rotate_left
  · (intro wS hSw; (try dsimp only at hSw); go_simp; (try with_reducible rfl))
  try simp only [Act.put, List.setIfInBounds_toArray, List.set_cons_zero, List.set_cons_succ]
  refine wpAnyH_ready (rs := [1]) (by kernel_rfl) (by simp) ?_
  refine AllReadyH.cons (o := { dst := some 26, op := Op.call { callee := Callee.value (Operand.func 7), args := #[Operand.tmp 25], argTypes := #[23] }, type := 26, pos := "law.go:47", after := #[{ on := 0, ground := Ground.data }], guard := none }) rfl (fun K hK => ?_) AllReadyH.nil
  go_simp
  (first
      | (go_at_call 7; ((with_reducible refine (new_bb _ _ _ _ _ L N _ HM HLOG HAB.out L1 L2 N1 N2).mono ?_); rintro e' wN ⟨⟨m, g1, g2, rfl, hM, hmm, hm1, hm2⟩, hb⟩; have hml := hM.lt; (try have hb := undrew1 hb); have HB0 := btr HB0 HB0.size hb; have G1 := G1.below hb G1.lt; clear HY; have HY := cells5 G1))
      | (go_at_call 8; ((with_reducible refine (rnew_yes _ _ _ _ _ L _ HM HLOG L1 L2).mono ?_); rintro e' wN ⟨⟨r, g3, rfl, hR, hrr, hr3⟩, hb⟩; (try have hrr := (show _ ≤ r from hrr)); have hM := (MapW.likeB hM hb); (try have hb := undrew1 hb); have HB0 := btr HB0 HB0.size hb; have G1 := G1.below hb G1.lt; clear HY; have HY := cells5 G1)))
  go_wp2_with fail
  refine hK.out _ _ ?_ (fun hNew => ?_)
  · (first | exact HY | assumption)
  clear hK K hHeld
  have hHeld := hNew
  clear hNew
  try simp only [Act.put, List.setIfInBounds_toArray, List.set_cons_zero, List.set_cons_succ]
  refine wpAnyH_ready (rs := [3]) (by kernel_rfl) (by simp) ?_
  refine AllReadyH.cons (o := { dst := some 28, op := Op.call { callee := Callee.value (Operand.func 8), args := #[Operand.tmp 27], argTypes := #[23] }, type := 28, pos := "law.go:47", after := #[{ on := 2, ground := Ground.data }, { on := 1, ground := Ground.chain }], guard := none }) rfl (fun K hK => ?_) AllReadyH.nil
  go_simp
  (first
      | (go_at_call 7; ((with_reducible refine (new_bb _ _ _ _ _ L N _ HM HLOG HAB.out L1 L2 N1 N2).mono ?_); rintro e' wN ⟨⟨m, g1, g2, rfl, hM, hmm, hm1, hm2⟩, hb⟩; have hml := hM.lt; (try have hb := undrew1 hb); have HB0 := btr HB0 HB0.size hb; have G1 := G1.below hb G1.lt; clear HY; have HY := cells5 G1))
      | (go_at_call 8; ((with_reducible refine (rnew_yes _ _ _ _ _ L _ HM HLOG L1 L2).mono ?_); rintro e' wN ⟨⟨r, g3, rfl, hR, hrr, hr3⟩, hb⟩; (try have hrr := (show _ ≤ r from hrr)); have hM := (MapW.likeB hM hb); (try have hb := undrew1 hb); have HB0 := btr HB0 HB0.size hb; have G1 := G1.below hb G1.lt; clear HY; have HY := cells5 G1)))
  go_wp2_with fail
  refine hK.out _ _ ?_ (fun hNew => ?_)
  · (first | exact HY | assumption)
  clear hK K hHeld
  have hHeld := hNew
  clear hNew
  try simp only [Act.put, List.setIfInBounds_toArray, List.set_cons_zero, List.set_cons_succ]
  refine wpAnyH_take (i := 4) (oi := { dst := some 5, op := Op.assign (Operand.tmp 26), type := 26, pos := "law.go:47", after := #[{ on := 1, ground := Ground.data }, { on := 3, ground := Ground.chain }, { on := 0, ground := Ground.phase }, { on := 1, ground := Ground.phase }, { on := 2, ground := Ground.textOnly Departure.lateStores }, { on := 3, ground := Ground.textOnly Departure.lateStoresUnsure }], guard := none }) (v := ?_) rfl (by kernel_rfl) (by kernel_rfl) (by kernel_rfl) (fun _ _ _ h => h) (Or.inl ⟨by rfl, ?_⟩) (by assumption) ?_
  rotate_left
  · (intro wS hSw; (try dsimp only at hSw); go_simp; (try with_reducible rfl))
  try simp only [Act.put, List.setIfInBounds_toArray, List.set_cons_zero, List.set_cons_succ]
  refine wpAnyH_take (i := 5) (oi := { dst := some 6, op := Op.assign (Operand.tmp 28), type := 28, pos := "law.go:47", after := #[{ on := 3, ground := Ground.data }, { on := 4, ground := Ground.chain }, { on := 0, ground := Ground.phase }, { on := 1, ground := Ground.phase }, { on := 2, ground := Ground.phase }, { on := 3, ground := Ground.phase }, { on := 4, ground := Ground.phase }], guard := none }) (v := ?_) rfl (by kernel_rfl) (by kernel_rfl) (by kernel_rfl) (fun _ _ _ h => h) (Or.inl ⟨by rfl, ?_⟩) (by assumption) ?_
  rotate_left
  · (intro wS hSw; (try dsimp only at hSw); go_simp; (try with_reducible rfl))
  try simp only [Act.put, List.setIfInBounds_toArray, List.set_cons_zero, List.set_cons_succ]
  refine wpAnyH_done (by kernel_rfl) ?_ _
  refine NoPanic.normal ?_
  have hmB : B ≤ m := by rw [← hB]; exact hmm
  have hm1 : B ≤ g1 := by rw [← hB]; exact hm1
  have hm2 : B ≤ g2 := by rw [← hB]; exact hm2
  have hrB : B ≤ r := by omega
  have hr3 : B ≤ g3 := by omega
  have d1 : m ≠ g3 := by omega
  have d2 : g1 ≠ g3 := by omega
  have d3 : g2 ≠ g3 := by omega
  have d4 : r ≠ g1 := by omega
  have d5 : r ≠ g2 := by omega
  have d6 : g3 ≠ g1 := by omega
  have d7 : g3 ≠ g2 := by omega
  rw [hB] at hbl
  clear hB hmm hrr hml HY G1 hb
  go_wp2_with fail
  obtain ⟨w0, hw0⟩ : ∃ W : World, W = wN := ⟨_, rfl⟩
  rw [← hw0] at HB0 hM hR ⊢
  clear hw0
  have hBw : B ≤ w0.heap.size := by have := hR.lt; omega
  have H1 : SlE 4 w0 B A1 es := (hs.below HB0).mono (by omega)
  clear hs
  obtain ⟨A0, hA0⟩ : ∃ A0 : List Int, List.replicate L (-1) = A0 := ⟨_, rfl⟩
  obtain ⟨W0, hW0⟩ : ∃ W0 : List Int, List.replicate N (-1) = W0 := ⟨_, rfl⟩
  rw [hA0, hW0] at hM
  rw [hA0] at hR
  clear hA0 hW0
  go_loopw [7] (fun s7 wr => ∃ (j : Nat) (A W : List Int), j ≤ n ∧ s7 = .int .i64 (j : Int) ∧ MapW wr m g1 g2 a b c d e L N A W ∧ RefW wr r g3 a b c d e L A ∧ Below B w0 wr) (fun i _ => n - (intOf i).toNat)
  case atStart => exact ⟨0, A0, W0, Nat.zero_le _, rfl, hM, hR, (by first | exact Below.refl _ _ | exact (Below.refl _ _).drew)⟩
  case round =>
    clear hM hR
    obtain ⟨j, A, W, hj, rfl, hM, hR, HBr⟩ := hrel
    by_cases hlt : j < n
    · obtain ⟨z0, z1, z2, z3, hx, -⟩ := act_get HW.out (j := j) (by rw [HL.out]; exact hlt)
      obtain ⟨b1, o1, rfl, hb1, qq⟩ := H1.at_ (by rw [HL.out]; omega)
      have q0 : w0.cell? ⟨b1, o1 + j * 4, none⟩ = some (.int .i64 z0) := qq j _ hx 0 _ rfl
      have q1 : w0.cell? ⟨b1, o1 + j * 4 + 1, none⟩ = some (.int .i64 z1) := qq j _ hx 1 _ rfl
      have q2 : w0.cell? ⟨b1, o1 + j * 4 + 2, none⟩ = some (.int .i64 z2) := qq j _ hx 2 _ rfl
      have q3 : w0.cell? ⟨b1, o1 + j * 4 + 3, none⟩ = some (.int .i64 z3) := qq j _ hx 3 _ rfl
      have hc := fun i => HBr.cell (p := ⟨b1, i, none⟩) hb1
      have k0 := (hc _).trans q0
      have k1 := (hc _).trans q1
      have k2 := (hc _).trans q2
      have k3 := (hc _).trans q3
      have i0 : (0 : Int) ≤ (j : Int) := by omega
      have i1 : (j : Int) < (n : Int) := by omega
      have e1 : wr.heap.size ≠ g1 := by have := hM.lt; omega
      have e2 : wr.heap.size ≠ g2 := by have := hM.lt; omega
      have e3 : wr.heap.size ≠ g3 := by have := hR.lt; omega
      have hba : Below wr.heap.size wr (wr.alloc (.cells #[.int .i64 z0, .int .i64 z1, .int .i64 z2, .int .i64 z3] 33)) := (Below.refl _ _).alloc (Nat.le_refl _) _
      replace hM := hM.below hba
      replace hR := hR.below hba
      replace HBr := btr HBr (Nat.le_trans hBw HBr.size) hba
      have XB : Blk (wr.alloc (.cells #[.int .i64 z0, .int .i64 z1, .int .i64 z2, .int .i64 z3] 33)) wr.heap.size 33 #[.int .i64 z0, .int .i64 z1, .int .i64 z2, .int .i64 z3] := Blk.new_ _ _ _
      obtain ⟨x0, x1, x2, x3⟩ := cells4 XB
      clear qq hx hc q0 q1 q2 q3 hba
      go_upto_block 2 with (first
        | (go_at_call 9; ((with_reducible refine (copy_any _ _ _ _ _ _ _ _ _ _ _ _ _ hM (by omega) (by omega) (by omega) (by omega)).mono ?_); rintro e' wN ⟨⟨m4, g4, g5, rfl, hM4, q4, q5, q6⟩, hb⟩; have hb4 := hb; have XC := XB.below hb XB.lt; clear x0 x1 x2 x3; obtain ⟨x0, x1, x2, x3⟩ := cells4 XC))
        | (go_at_call 10; ((with_reducible refine (drop_any _ _ _ _ _ _ _ _ _ _ _ _ z1 _ hM4 (by omega) (by omega)).mono ?_); rintro e' wN ⟨rfl, ⟨W4, -⟩, hT⟩; have hb := hb4.trans (hT.bel _ q5 q6 hb4.size); clear hT hM4 x0 x1 x2 x3; replace hM := MapW.likeB hM hb; replace hR := RefW.likeB hR hb; (try have hb := undrew1 hb); replace HBr := btr HBr (Nat.le_trans hBw HBr.size) hb; replace XB := XB.below hb XB.lt; (try clear x0 x1 x2 x3); obtain ⟨x0, x1, x2, x3⟩ := cells4 XB)))
      clear k0 k1 k2 k3
      go_cut [10] (fun s10 wq => ∃ A2 W2, s10 = .bool true ∧ MapW wq m g1 g2 a b c d e L N A2 W2 ∧ RefW wq r g3 a b c d e L A2 ∧ Blk wq wr.heap.size 33 #[.int .i64 z0, .int .i64 z1, .int .i64 z2, .int .i64 z3] ∧ Below B w0 wq)
      case first =>
        have HI := Lib.hid hM.inv
        by_cases hz0 : z0 = 0
        · subst hz0
          go_upto_region 19 with fail
          refine wp_region_noPanic ?_
          refine wp_region_held_drew (S := (fun w' => w'.cell? ⟨wr.heap.size, 1, none⟩ = some (.int .i64 z1) ∧ w'.cell? ⟨wr.heap.size, 2, none⟩ = some (.int .i64 z2) ∧ w'.cell? ⟨wr.heap.size, 3, none⟩ = some (.int .i64 z3))) (by kernel_rfl) ?_ (fun hHeld => ?_)
          · (first | exact ⟨x1, x2, x3⟩ | assumption)
          refine wpAnyH_take (i := 0) (oi := { dst := some 59, op := Op.move (Operand.tmp 5), type := 26, pos := "law.go:64", after := #[], guard := none }) (v := ?_) rfl (by kernel_rfl) (by kernel_rfl) (by kernel_rfl) (fun _ _ _ h => h) (Or.inl ⟨by rfl, ?_⟩) (by assumption) ?_
          rotate_left
          · (intro wS hSw; (try dsimp only at hSw); go_simp; (try with_reducible rfl))
          try simp only [Act.put, List.setIfInBounds_toArray, List.set_cons_zero, List.set_cons_succ]
          refine wpAnyH_take (i := 1) (oi := { dst := some 60, op := Op.fieldAddr 33 (Operand.tmp 8) 1, type := 0, pos := "law.go:64", after := #[], guard := none }) (v := ?_) rfl (by kernel_rfl) (by kernel_rfl) (by kernel_rfl) (fun _ _ _ h => h) (Or.inl ⟨by rfl, ?_⟩) (by assumption) ?_
          rotate_left
          · (intro wS hSw; (try dsimp only at hSw); go_simp; (try with_reducible rfl))
          try simp only [Act.put, List.setIfInBounds_toArray, List.set_cons_zero, List.set_cons_succ]
          refine wpAnyH_take (i := 2) (oi := { dst := some 61, op := Op.load 3 (Operand.tmp 60), type := 3, pos := "law.go:64", after := #[{ on := 1, ground := Ground.data }], guard := none }) (v := ?_) rfl (by kernel_rfl) (by kernel_rfl) (by kernel_rfl) (fun _ _ _ h => h) (Or.inl ⟨by rfl, ?_⟩) (by assumption) ?_
          rotate_left
          · (intro wS hSw; (try dsimp only at hSw); go_simp; (try with_reducible rfl))
          try simp only [Act.put, List.setIfInBounds_toArray, List.set_cons_zero, List.set_cons_succ]
          refine wpAnyH_take (i := 3) (oi := { dst := some 62, op := Op.fieldAddr 33 (Operand.tmp 8) 2, type := 0, pos := "law.go:64", after := #[], guard := none }) (v := ?_) rfl (by kernel_rfl) (by kernel_rfl) (by kernel_rfl) (fun _ _ _ h => h) (Or.inl ⟨by rfl, ?_⟩) (by assumption) ?_
          rotate_left
          · (intro wS hSw; (try dsimp only at hSw); go_simp; (try with_reducible rfl))
          try simp only [Act.put, List.setIfInBounds_toArray, List.set_cons_zero, List.set_cons_succ]
          refine wpAnyH_take (i := 4) (oi := { dst := some 63, op := Op.load 31 (Operand.tmp 62), type := 31, pos := "law.go:64", after := #[{ on := 3, ground := Ground.data }], guard := none }) (v := ?_) rfl (by kernel_rfl) (by kernel_rfl) (by kernel_rfl) (fun _ _ _ h => h) (Or.inl ⟨by rfl, ?_⟩) (by assumption) ?_
          rotate_left
          · (intro wS hSw; (try dsimp only at hSw); go_simp; (try with_reducible rfl))
          try simp only [Act.put, List.setIfInBounds_toArray, List.set_cons_zero, List.set_cons_succ]
          refine wpAnyH_take (i := 6) (oi := { dst := some 65, op := Op.move (Operand.tmp 6), type := 28, pos := "law.go:64", after := #[], guard := none }) (v := ?_) rfl (by kernel_rfl) (by kernel_rfl) (by kernel_rfl) (fun _ _ _ h => h) (Or.inl ⟨by rfl, ?_⟩) (by assumption) ?_
          rotate_left
          · (intro wS hSw; (try dsimp only at hSw); go_simp; (try with_reducible rfl))
          try simp only [Act.put, List.setIfInBounds_toArray, List.set_cons_zero, List.set_cons_succ]
          refine wpAnyH_take (i := 7) (oi := { dst := some 66, op := Op.fieldAddr 33 (Operand.tmp 8) 1, type := 0, pos := "law.go:64", after := #[], guard := none }) (v := ?_) rfl (by kernel_rfl) (by kernel_rfl) (by kernel_rfl) (fun _ _ _ h => h) (Or.inl ⟨by rfl, ?_⟩) (by assumption) ?_
          rotate_left
          · (intro wS hSw; (try dsimp only at hSw); go_simp; (try with_reducible rfl))
          try simp only [Act.put, List.setIfInBounds_toArray, List.set_cons_zero, List.set_cons_succ]
          refine wpAnyH_take (i := 8) (oi := { dst := some 67, op := Op.load 3 (Operand.tmp 66), type := 3, pos := "law.go:64", after := #[{ on := 7, ground := Ground.data }], guard := none }) (v := ?_) rfl (by kernel_rfl) (by kernel_rfl) (by kernel_rfl) (fun _ _ _ h => h) (Or.inl ⟨by rfl, ?_⟩) (by assumption) ?_
          rotate_left
          · (intro wS hSw; (try dsimp only at hSw); go_simp; (try with_reducible rfl))
          try simp only [Act.put, List.setIfInBounds_toArray, List.set_cons_zero, List.set_cons_succ]
          refine wpAnyH_take (i := 9) (oi := { dst := some 68, op := Op.fieldAddr 33 (Operand.tmp 8) 2, type := 0, pos := "law.go:64", after := #[], guard := none }) (v := ?_) rfl (by kernel_rfl) (by kernel_rfl) (by kernel_rfl) (fun _ _ _ h => h) (Or.inl ⟨by rfl, ?_⟩) (by assumption) ?_
          rotate_left
          · (intro wS hSw; (try dsimp only at hSw); go_simp; (try with_reducible rfl))
          try simp only [Act.put, List.setIfInBounds_toArray, List.set_cons_zero, List.set_cons_succ]
          refine wpAnyH_take (i := 10) (oi := { dst := some 69, op := Op.load 31 (Operand.tmp 68), type := 31, pos := "law.go:64", after := #[{ on := 9, ground := Ground.data }], guard := none }) (v := ?_) rfl (by kernel_rfl) (by kernel_rfl) (by kernel_rfl) (fun _ _ _ h => h) (Or.inl ⟨by rfl, ?_⟩) (by assumption) ?_
          rotate_left
          · (intro wS hSw; (try dsimp only at hSw); go_simp; (try with_reducible rfl))
          try simp only [Act.put, List.setIfInBounds_toArray, List.set_cons_zero, List.set_cons_succ]
          refine wpAnyH_ready (rs := [5]) (by kernel_rfl) (by simp) ?_
          refine AllReadyH.cons (o := { dst := some 64, op := Op.call { callee := Callee.value (Operand.func 11), args := #[Operand.tmp 59, Operand.tmp 61, Operand.tmp 63], argTypes := #[26, 3, 31] }, type := 4, pos := "law.go:64", after := #[{ on := 0, ground := Ground.data }, { on := 2, ground := Ground.data }, { on := 4, ground := Ground.data }], guard := none }) rfl (fun K hK => ?_) AllReadyH.nil
          go_simp
          (first
                | (go_at_call 11; ((with_reducible refine (put_any _ _ _ _ _ _ _ _ _ _ _ _ z1 z2 z3 _ (by first | exact hM | exact hM.drew) HM (by omega) (by omega) HAB.out).mono ?_); rintro e' wN ⟨rfl, ⟨W2, hM2⟩, hT⟩; (try have hT := undrewT hT); replace hR := RefW.touch hR hT d4 d5 d6 d7; replace XB := hT.blk XB e1 e2; replace HBr := HBr.trans (hT.bel B hm1 hm2 (Nat.le_trans hBw HBr.size)); clear hM hT x0 x1 x2 x3; have hM := hM2; clear hM2; obtain ⟨x0, x1, x2, x3⟩ := cells4 XB))
                | (go_at_call 12; ((with_reducible refine (rput_any _ _ _ _ _ _ _ _ _ _ _ z1 z2 z3 _ (by first | exact hR | exact hR.drew) HI.out HM (by omega) (by omega) HAB.out).mono ?_); rintro e' wN ⟨rfl, hR2, hT⟩; (try have hT := undrewT1 hT); replace hM := MapW.touch1 hM hT d1 d2 d3; replace XB := hT.blk XB e3; replace HBr := HBr.trans (hT.bel B hr3 (Nat.le_trans hBw HBr.size)); clear hR hT x0 x1 x2 x3; have hR := hR2; clear hR2; obtain ⟨x0, x1, x2, x3⟩ := cells4 XB)))
          go_wp2_with fail
          refine hK.out _ _ ?_ (fun hNew => ?_)
          · (first | exact ⟨x1, x2, x3⟩ | assumption)
          clear hK K hHeld
          have hHeld := hNew
          clear hNew
          try simp only [Act.put, List.setIfInBounds_toArray, List.set_cons_zero, List.set_cons_succ]
          refine wpAnyH_ready (rs := [11]) (by kernel_rfl) (by simp) ?_
          refine AllReadyH.cons (o := { dst := some 70, op := Op.call { callee := Callee.value (Operand.func 12), args := #[Operand.tmp 65, Operand.tmp 67, Operand.tmp 69], argTypes := #[28, 3, 31] }, type := 4, pos := "law.go:64", after := #[{ on := 6, ground := Ground.data }, { on := 8, ground := Ground.data }, { on := 10, ground := Ground.data }, { on := 5, ground := Ground.chain }], guard := none }) rfl (fun K hK => ?_) AllReadyH.nil
          go_simp
          (first
                | (go_at_call 11; ((with_reducible refine (put_any _ _ _ _ _ _ _ _ _ _ _ _ z1 z2 z3 _ (by first | exact hM | exact hM.drew) HM (by omega) (by omega) HAB.out).mono ?_); rintro e' wN ⟨rfl, ⟨W2, hM2⟩, hT⟩; (try have hT := undrewT hT); replace hR := RefW.touch hR hT d4 d5 d6 d7; replace XB := hT.blk XB e1 e2; replace HBr := HBr.trans (hT.bel B hm1 hm2 (Nat.le_trans hBw HBr.size)); clear hM hT x0 x1 x2 x3; have hM := hM2; clear hM2; obtain ⟨x0, x1, x2, x3⟩ := cells4 XB))
                | (go_at_call 12; ((with_reducible refine (rput_any _ _ _ _ _ _ _ _ _ _ _ z1 z2 z3 _ (by first | exact hR | exact hR.drew) HI.out HM (by omega) (by omega) HAB.out).mono ?_); rintro e' wN ⟨rfl, hR2, hT⟩; (try have hT := undrewT1 hT); replace hM := MapW.touch1 hM hT d1 d2 d3; replace XB := hT.blk XB e3; replace HBr := HBr.trans (hT.bel B hr3 (Nat.le_trans hBw HBr.size)); clear hR hT x0 x1 x2 x3; have hR := hR2; clear hR2; obtain ⟨x0, x1, x2, x3⟩ := cells4 XB)))
          go_wp2_with fail
          refine hK.out _ _ ?_ (fun hNew => ?_)
          · (first | exact ⟨x1, x2, x3⟩ | assumption)
          clear hK K hHeld
          have hHeld := hNew
          clear hNew
          try simp only [Act.put, List.setIfInBounds_toArray, List.set_cons_zero, List.set_cons_succ]
          refine wpAnyH_take (i := 12) (oi := { dst := some 71, op := Op.binOp BinOp.eql 4 (Operand.tmp 64) (Operand.tmp 70) 4, type := 4, pos := "law.go:64", after := #[{ on := 5, ground := Ground.data }, { on := 11, ground := Ground.data }], guard := none }) (v := ?_) rfl (by kernel_rfl) (by kernel_rfl) (by kernel_rfl) (fun _ _ _ h => h) (Or.inl ⟨by rfl, ?_⟩) (by assumption) ?_
          rotate_left
          · (intro wS hSw; (try dsimp only at hSw); go_simp; (try with_reducible rfl))
          try simp only [Act.put, List.setIfInBounds_toArray, List.set_cons_zero, List.set_cons_succ]
          refine wpAnyH_take (i := 13) (oi := { dst := some 10, op := Op.assign (Operand.tmp 71), type := 4, pos := "law.go:64", after := #[{ on := 12, ground := Ground.data }, { on := 11, ground := Ground.chain }, { on := 0, ground := Ground.phase }, { on := 1, ground := Ground.phase }, { on := 2, ground := Ground.phase }, { on := 3, ground := Ground.phase }, { on := 4, ground := Ground.phase }, { on := 5, ground := Ground.phase }, { on := 6, ground := Ground.phase }, { on := 7, ground := Ground.phase }, { on := 8, ground := Ground.phase }, { on := 9, ground := Ground.phase }, { on := 10, ground := Ground.phase }, { on := 11, ground := Ground.phase }, { on := 12, ground := Ground.phase }], guard := none }) (v := ?_) rfl (by kernel_rfl) (by kernel_rfl) (by kernel_rfl) (fun _ _ _ h => h) (Or.inl ⟨by rfl, ?_⟩) (by assumption) ?_
          rotate_left
          · (intro wS hSw; (try dsimp only at hSw); go_simp; (try with_reducible rfl))
          try simp only [Act.put, List.setIfInBounds_toArray, List.set_cons_zero, List.set_cons_succ]
          refine wpAnyH_done (by kernel_rfl) ?_ _
          refine NoPanic.normal ?_
          go_wp2_with fail
          go_meet
          exact ⟨_, _, by simp, hM, hR, XB, HBr⟩
        by_cases hz1 : z0 = 1
        · subst hz1
          go_upto_region 21 with fail
          refine wp_region_noPanic ?_
          refine wp_region_held_drew (S := (fun w' => w'.cell? ⟨wr.heap.size, 1, none⟩ = some (.int .i64 z1) ∧ w'.cell? ⟨wr.heap.size, 2, none⟩ = some (.int .i64 z2) ∧ w'.cell? ⟨wr.heap.size, 3, none⟩ = some (.int .i64 z3))) (by kernel_rfl) ?_ (fun hHeld => ?_)
          · (first | exact ⟨x1, x2, x3⟩ | assumption)
          refine wpAnyH_take (i := 0) (oi := { dst := some 74, op := Op.move (Operand.tmp 5), type := 26, pos := "law.go:66", after := #[], guard := none }) (v := ?_) rfl (by kernel_rfl) (by kernel_rfl) (by kernel_rfl) (fun _ _ _ h => h) (Or.inl ⟨by rfl, ?_⟩) (by assumption) ?_
          rotate_left
          · (intro wS hSw; (try dsimp only at hSw); go_simp; (try with_reducible rfl))
          try simp only [Act.put, List.setIfInBounds_toArray, List.set_cons_zero, List.set_cons_succ]
          refine wpAnyH_take (i := 1) (oi := { dst := some 75, op := Op.fieldAddr 33 (Operand.tmp 8) 1, type := 0, pos := "law.go:66", after := #[], guard := none }) (v := ?_) rfl (by kernel_rfl) (by kernel_rfl) (by kernel_rfl) (fun _ _ _ h => h) (Or.inl ⟨by rfl, ?_⟩) (by assumption) ?_
          rotate_left
          · (intro wS hSw; (try dsimp only at hSw); go_simp; (try with_reducible rfl))
          try simp only [Act.put, List.setIfInBounds_toArray, List.set_cons_zero, List.set_cons_succ]
          refine wpAnyH_take (i := 2) (oi := { dst := some 76, op := Op.load 3 (Operand.tmp 75), type := 3, pos := "law.go:66", after := #[{ on := 1, ground := Ground.data }], guard := none }) (v := ?_) rfl (by kernel_rfl) (by kernel_rfl) (by kernel_rfl) (fun _ _ _ h => h) (Or.inl ⟨by rfl, ?_⟩) (by assumption) ?_
          rotate_left
          · (intro wS hSw; (try dsimp only at hSw); go_simp; (try with_reducible rfl))
          try simp only [Act.put, List.setIfInBounds_toArray, List.set_cons_zero, List.set_cons_succ]
          refine wpAnyH_take (i := 4) (oi := { dst := some 78, op := Op.move (Operand.tmp 6), type := 28, pos := "law.go:66", after := #[], guard := none }) (v := ?_) rfl (by kernel_rfl) (by kernel_rfl) (by kernel_rfl) (fun _ _ _ h => h) (Or.inl ⟨by rfl, ?_⟩) (by assumption) ?_
          rotate_left
          · (intro wS hSw; (try dsimp only at hSw); go_simp; (try with_reducible rfl))
          try simp only [Act.put, List.setIfInBounds_toArray, List.set_cons_zero, List.set_cons_succ]
          refine wpAnyH_take (i := 5) (oi := { dst := some 79, op := Op.fieldAddr 33 (Operand.tmp 8) 1, type := 0, pos := "law.go:66", after := #[], guard := none }) (v := ?_) rfl (by kernel_rfl) (by kernel_rfl) (by kernel_rfl) (fun _ _ _ h => h) (Or.inl ⟨by rfl, ?_⟩) (by assumption) ?_
          rotate_left
          · (intro wS hSw; (try dsimp only at hSw); go_simp; (try with_reducible rfl))
          try simp only [Act.put, List.setIfInBounds_toArray, List.set_cons_zero, List.set_cons_succ]
          refine wpAnyH_take (i := 6) (oi := { dst := some 80, op := Op.load 3 (Operand.tmp 79), type := 3, pos := "law.go:66", after := #[{ on := 5, ground := Ground.data }], guard := none }) (v := ?_) rfl (by kernel_rfl) (by kernel_rfl) (by kernel_rfl) (fun _ _ _ h => h) (Or.inl ⟨by rfl, ?_⟩) (by assumption) ?_
          rotate_left
          · (intro wS hSw; (try dsimp only at hSw); go_simp; (try with_reducible rfl))
          try simp only [Act.put, List.setIfInBounds_toArray, List.set_cons_zero, List.set_cons_succ]
          refine wpAnyH_ready (rs := [3]) (by kernel_rfl) (by simp) ?_
          refine AllReadyH.cons (o := { dst := some 77, op := Op.call { callee := Callee.value (Operand.func 10), args := #[Operand.tmp 74, Operand.tmp 76], argTypes := #[26, 3] }, type := 4, pos := "law.go:66", after := #[{ on := 0, ground := Ground.data }, { on := 2, ground := Ground.data }], guard := none }) rfl (fun K hK => ?_) AllReadyH.nil
          go_simp
          (first
                | (go_at_call 10; ((with_reducible refine (drop_any _ _ _ _ _ _ _ _ _ _ _ _ z1 _ (by first | exact hM | exact hM.drew) (by omega) (by omega)).mono ?_); rintro e' wN ⟨rfl, ⟨W2, hM2⟩, hT⟩; (try have hT := undrewT hT); replace hR := RefW.touch hR hT d4 d5 d6 d7; replace XB := hT.blk XB e1 e2; replace HBr := HBr.trans (hT.bel B hm1 hm2 (Nat.le_trans hBw HBr.size)); clear hM hT x0 x1 x2 x3; have hM := hM2; clear hM2; obtain ⟨x0, x1, x2, x3⟩ := cells4 XB))
                | (go_at_call 13; ((with_reducible refine (rdrop_any _ _ _ _ _ _ _ _ _ _ _ z1 _ (by first | exact hR | exact hR.drew) HI.out HM (by omega) (by omega)).mono ?_); rintro e' wN ⟨rfl, hR2, hT⟩; (try have hT := undrewT1 hT); replace hM := MapW.touch1 hM hT d1 d2 d3; replace XB := hT.blk XB e3; replace HBr := HBr.trans (hT.bel B hr3 (Nat.le_trans hBw HBr.size)); clear hR hT x0 x1 x2 x3; have hR := hR2; clear hR2; obtain ⟨x0, x1, x2, x3⟩ := cells4 XB)))
          go_wp2_with fail
          refine hK.out _ _ ?_ (fun hNew => ?_)
          · (first | exact ⟨x1, x2, x3⟩ | assumption)
          clear hK K hHeld
          have hHeld := hNew
          clear hNew
          try simp only [Act.put, List.setIfInBounds_toArray, List.set_cons_zero, List.set_cons_succ]
          refine wpAnyH_ready (rs := [7]) (by kernel_rfl) (by simp) ?_
          refine AllReadyH.cons (o := { dst := some 81, op := Op.call { callee := Callee.value (Operand.func 13), args := #[Operand.tmp 78, Operand.tmp 80], argTypes := #[28, 3] }, type := 4, pos := "law.go:66", after := #[{ on := 4, ground := Ground.data }, { on := 6, ground := Ground.data }, { on := 3, ground := Ground.chain }], guard := none }) rfl (fun K hK => ?_) AllReadyH.nil
          go_simp
          (first
                | (go_at_call 10; ((with_reducible refine (drop_any _ _ _ _ _ _ _ _ _ _ _ _ z1 _ (by first | exact hM | exact hM.drew) (by omega) (by omega)).mono ?_); rintro e' wN ⟨rfl, ⟨W2, hM2⟩, hT⟩; (try have hT := undrewT hT); replace hR := RefW.touch hR hT d4 d5 d6 d7; replace XB := hT.blk XB e1 e2; replace HBr := HBr.trans (hT.bel B hm1 hm2 (Nat.le_trans hBw HBr.size)); clear hM hT x0 x1 x2 x3; have hM := hM2; clear hM2; obtain ⟨x0, x1, x2, x3⟩ := cells4 XB))
                | (go_at_call 13; ((with_reducible refine (rdrop_any _ _ _ _ _ _ _ _ _ _ _ z1 _ (by first | exact hR | exact hR.drew) HI.out HM (by omega) (by omega)).mono ?_); rintro e' wN ⟨rfl, hR2, hT⟩; (try have hT := undrewT1 hT); replace hM := MapW.touch1 hM hT d1 d2 d3; replace XB := hT.blk XB e3; replace HBr := HBr.trans (hT.bel B hr3 (Nat.le_trans hBw HBr.size)); clear hR hT x0 x1 x2 x3; have hR := hR2; clear hR2; obtain ⟨x0, x1, x2, x3⟩ := cells4 XB)))
          go_wp2_with fail
          refine hK.out _ _ ?_ (fun hNew => ?_)
          · (first | exact ⟨x1, x2, x3⟩ | assumption)
          clear hK K hHeld
          have hHeld := hNew
          clear hNew
          try simp only [Act.put, List.setIfInBounds_toArray, List.set_cons_zero, List.set_cons_succ]
          refine wpAnyH_take (i := 8) (oi := { dst := some 82, op := Op.binOp BinOp.eql 4 (Operand.tmp 77) (Operand.tmp 81) 4, type := 4, pos := "law.go:66", after := #[{ on := 3, ground := Ground.data }, { on := 7, ground := Ground.data }], guard := none }) (v := ?_) rfl (by kernel_rfl) (by kernel_rfl) (by kernel_rfl) (fun _ _ _ h => h) (Or.inl ⟨by rfl, ?_⟩) (by assumption) ?_
          rotate_left
          · (intro wS hSw; (try dsimp only at hSw); go_simp; (try with_reducible rfl))
          try simp only [Act.put, List.setIfInBounds_toArray, List.set_cons_zero, List.set_cons_succ]
          refine wpAnyH_take (i := 9) (oi := { dst := some 10, op := Op.assign (Operand.tmp 82), type := 4, pos := "law.go:66", after := #[{ on := 8, ground := Ground.data }, { on := 7, ground := Ground.chain }, { on := 0, ground := Ground.phase }, { on := 1, ground := Ground.phase }, { on := 2, ground := Ground.phase }, { on := 3, ground := Ground.phase }, { on := 4, ground := Ground.phase }, { on := 5, ground := Ground.phase }, { on := 6, ground := Ground.phase }, { on := 7, ground := Ground.phase }, { on := 8, ground := Ground.phase }], guard := none }) (v := ?_) rfl (by kernel_rfl) (by kernel_rfl) (by kernel_rfl) (fun _ _ _ h => h) (Or.inl ⟨by rfl, ?_⟩) (by assumption) ?_
          rotate_left
          · (intro wS hSw; (try dsimp only at hSw); go_simp; (try with_reducible rfl))
          try simp only [Act.put, List.setIfInBounds_toArray, List.set_cons_zero, List.set_cons_succ]
          refine wpAnyH_done (by kernel_rfl) ?_ _
          refine NoPanic.normal ?_
          go_wp2_with fail
          go_meet
          exact ⟨_, _, by simp, hM, hR, XB, HBr⟩
        have hz2 : (z0 == 0) = false := by simp [hz0]
        have hz3 : (z0 == 1) = false := by simp [hz1]
        go_wp2_with fail
        go_meet
        exact ⟨_, _, by simp, hM, hR, XB, HBr⟩
      case rest =>
        clear hM hR XB HBr x0 x1 x2 x3
        obtain ⟨A2, W2, rfl, hM, hR, XB, HBr⟩ := hcut
        obtain ⟨x0, x1, x2, x3⟩ := cells4 XB
        have HI := Lib.hid hM.inv
        obtain ⟨u1, u2, ab, hat0⟩ := atV b A2 z1
        have hat := Lib.hid hat0
        obtain ⟨WR, hWR⟩ : ∃ WR, whoR a b A2 z2 z3 = WR := ⟨_, rfl⟩
        obtain ⟨WB, hWB⟩ : ∃ WB, whoB a b A2 z2 z3 = WB := ⟨_, rfl⟩
        obtain ⟨LK, hLK⟩ : ∃ LK, liveF a b A2 z2 b.toNat = LK := ⟨_, rfl⟩
        obtain ⟨PS, hPS⟩ : ∃ PS, pagesF A2 L = PS := ⟨_, rfl⟩
        obtain ⟨k, hk⟩ : ∃ k, PS.length = k := ⟨_, rfl⟩
        have hkL : k ≤ L := by rw [← hk, ← hPS]; exact pagesF_le A2 L
        have hwr := Lib.hid hWR
        have hwb := Lib.hid hWB
        have hlv := Lib.hid hLK
        have hps := Lib.hid hPS
        have HK := Lib.hid hk
        clear hat0 hWR hWB hLK hPS hk
        go_upto_region 27 with (first
          | (go_at_call 14; ((with_reducible refine (at_b _ _ _ _ _ _ _ _ _ _ _ _ z1 _ _ hM HM (by omega) (by omega) hat.out).mono ?_); rintro e' wP1 ⟨rfl, hb⟩; replace hM := MapW.likeB hM hb; replace hR := RefW.likeB hR hb; (try have hb := undrew1 hb); replace HBr := btr HBr (Nat.le_trans hBw HBr.size) hb; replace XB := XB.below hb XB.lt; (try clear x0 x1 x2 x3); obtain ⟨x0, x1, x2, x3⟩ := cells4 XB; have hba : Below wP1.heap.size wP1 (wP1.alloc (.cells #[.int .i64 u1, .int .i64 u2] 31)) := (Below.refl _ _).alloc (Nat.le_refl _) _; have hb := hba; have Q1 : Blk (wP1.alloc (.cells #[.int .i64 u1, .int .i64 u2] 31)) wP1.heap.size 31 #[.int .i64 u1, .int .i64 u2] := Blk.new_ _ _ _; replace hM := MapW.likeB hM hb; replace hR := RefW.likeB hR hb; (try have hb := undrew1 hb); replace HBr := btr HBr (Nat.le_trans hBw HBr.size) hb; replace XB := XB.below hb XB.lt; (try clear x0 x1 x2 x3); obtain ⟨x0, x1, x2, x3⟩ := cells4 XB; clear hba hb; obtain ⟨p10, p11⟩ := cells2 Q1))
          | (go_at_call 15; ((with_reducible refine (rplace_b _ _ _ _ _ _ _ _ _ _ _ z1 _ _ hR HI.out HM (by omega) (by omega) hat.out).mono ?_); rintro e' wP2 ⟨rfl, hb⟩; replace hM := MapW.likeB hM hb; replace hR := RefW.likeB hR hb; (try have hb := undrew1 hb); replace HBr := btr HBr (Nat.le_trans hBw HBr.size) hb; replace XB := XB.below hb XB.lt; (try clear x0 x1 x2 x3); obtain ⟨x0, x1, x2, x3⟩ := cells4 XB; replace Q1 := Q1.below hb Q1.lt; (try clear p10 p11); obtain ⟨p10, p11⟩ := cells2 Q1; have hba : Below wP2.heap.size wP2 (wP2.alloc (.cells #[.int .i64 u1, .int .i64 u2] 31)) := (Below.refl _ _).alloc (Nat.le_refl _) _; have hb := hba; have Q2 : Blk (wP2.alloc (.cells #[.int .i64 u1, .int .i64 u2] 31)) wP2.heap.size 31 #[.int .i64 u1, .int .i64 u2] := Blk.new_ _ _ _; replace hM := MapW.likeB hM hb; replace hR := RefW.likeB hR hb; (try have hb := undrew1 hb); replace HBr := btr HBr (Nat.le_trans hBw HBr.size) hb; replace XB := XB.below hb XB.lt; (try clear x0 x1 x2 x3); obtain ⟨x0, x1, x2, x3⟩ := cells4 XB; replace Q1 := Q1.below hb Q1.lt; (try clear p10 p11); obtain ⟨p10, p11⟩ := cells2 Q1; clear hba hb; obtain ⟨p20, p21⟩ := cells2 Q2))
          | (go_at_call 16; ((with_reducible refine (who_bb _ _ _ _ _ _ _ _ _ _ _ _ z2 z3 _ _ _ hM HM (by omega) HAB.out hwr.out hwb.out).mono ?_); rintro e' wN ⟨rfl, hb⟩; replace hM := MapW.likeB hM hb; replace hR := RefW.likeB hR hb; (try have hb := undrew1 hb); replace HBr := btr HBr (Nat.le_trans hBw HBr.size) hb; replace XB := XB.below hb XB.lt; (try clear x0 x1 x2 x3); obtain ⟨x0, x1, x2, x3⟩ := cells4 XB; replace Q1 := Q1.below hb Q1.lt; (try clear p10 p11); obtain ⟨p10, p11⟩ := cells2 Q1; replace Q2 := Q2.below hb Q2.lt; (try clear p20 p21); obtain ⟨p20, p21⟩ := cells2 Q2; clear hb))
          | (go_at_call 17; ((with_reducible refine (rwho_b _ _ _ _ _ _ _ _ _ _ _ z2 z3 _ _ _ hR HI.out HM (by omega) (by omega) HAB.out hwr hwb).mono ?_); rintro e' wN ⟨rfl, hb⟩; replace hM := MapW.likeB hM hb; replace hR := RefW.likeB hR hb; (try have hb := undrew1 hb); replace HBr := btr HBr (Nat.le_trans hBw HBr.size) hb; replace XB := XB.below hb XB.lt; (try clear x0 x1 x2 x3); obtain ⟨x0, x1, x2, x3⟩ := cells4 XB; replace Q1 := Q1.below hb Q1.lt; (try clear p10 p11); obtain ⟨p10, p11⟩ := cells2 Q1; replace Q2 := Q2.below hb Q2.lt; (try clear p20 p21); obtain ⟨p20, p21⟩ := cells2 Q2; clear hb))
          | (go_at_call 18; ((with_reducible refine (pages_o _ _ _ _ _ _ _ _ _ _ _ _ PS k _ hM (by omega) hps.out HK.out).mono ?_); rintro e' wN ⟨A3, c3, rfl, ho, hb⟩; have hml := hM.lt; have hrl := hR.lt; have hbz := hb.size; have hbq := HBr.size; replace hM := MapW.likeB hM hb; replace hR := RefW.likeB hR hb; (try have hb := undrew1 hb); replace HBr := btr HBr (Nat.le_trans hBw HBr.size) hb; replace XB := XB.below hb XB.lt; (try clear x0 x1 x2 x3); obtain ⟨x0, x1, x2, x3⟩ := cells4 XB; replace Q1 := Q1.below hb Q1.lt; (try clear p10 p11); obtain ⟨p10, p11⟩ := cells2 Q1; replace Q2 := Q2.below hb Q2.lt; (try clear p20 p21); obtain ⟨p20, p21⟩ := cells2 Q2; clear hb)))
        refine wp_region_noPanic ?_
        refine wp_region_held_drew (S := (fun w' => w'.cell? ⟨wP1.heap.size, 0, none⟩ = some (.int .i64 u1) ∧ w'.cell? ⟨wP1.heap.size, 1, none⟩ = some (.int .i64 u2) ∧ w'.cell? ⟨wP2.heap.size, 0, none⟩ = some (.int .i64 u1) ∧ w'.cell? ⟨wP2.heap.size, 1, none⟩ = some (.int .i64 u2) ∧ w'.cell? ⟨wr.heap.size, 2, none⟩ = some (.int .i64 z2))) (by kernel_rfl) ?_ (fun hHeld => ?_)
        · (first | exact ⟨p10, p11, p20, p21, x2⟩ | assumption)
        refine wpAnyH_take (i := 0) (oi := { dst := some 113, op := Op.move (Operand.tmp 10), type := 4, pos := "law.go:73", after := #[], guard := none }) (v := ?_) rfl (by kernel_rfl) (by kernel_rfl) (by kernel_rfl) (fun _ _ _ h => h) (Or.inl ⟨by rfl, ?_⟩) (by assumption) ?_
        rotate_left
        · (intro wS hSw; (try dsimp only at hSw); go_simp; (try with_reducible rfl))
        try simp only [Act.put, List.setIfInBounds_toArray, List.set_cons_zero, List.set_cons_succ]
        refine wpAnyH_take (i := 1) (oi := { dst := some 114, op := Op.unOp UnOp.not 4 (Operand.tmp 113), type := 4, pos := "law.go:73", after := #[{ on := 0, ground := Ground.data }], guard := none }) (v := ?_) rfl (by kernel_rfl) (by kernel_rfl) (by kernel_rfl) (fun _ _ _ h => h) (Or.inl ⟨by rfl, ?_⟩) (by assumption) ?_
        rotate_left
        · (intro wS hSw; (try dsimp only at hSw); go_simp; (try with_reducible rfl))
        try simp only [Act.put, List.setIfInBounds_toArray, List.set_cons_zero, List.set_cons_succ]
        refine wpAnyH_take (i := 2) (oi := { dst := some 115, op := Op.move (Operand.tmp 114), type := 4, pos := "law.go:73", after := #[{ on := 1, ground := Ground.data }], guard := none }) (v := ?_) rfl (by kernel_rfl) (by kernel_rfl) (by kernel_rfl) (fun _ _ _ h => h) (Or.inl ⟨by rfl, ?_⟩) (by assumption) ?_
        rotate_left
        · (intro wS hSw; (try dsimp only at hSw); go_simp; (try with_reducible rfl))
        try simp only [Act.put, List.setIfInBounds_toArray, List.set_cons_zero, List.set_cons_succ]
        refine wpAnyH_take (i := 3) (oi := { dst := some 116, op := Op.load 31 (Operand.tmp 11), type := 31, pos := "law.go:73", after := #[{ on := 2, ground := Ground.guard }], guard := some (2, false) }) (v := ?_) rfl (by kernel_rfl) (by kernel_rfl) (by kernel_rfl) (fun _ _ _ h => h) (Or.inl ⟨by rfl, ?_⟩) (by assumption) ?_
        rotate_left
        · (intro wS hSw; (try dsimp only at hSw); go_simp; (try with_reducible rfl))
        try simp only [Act.put, List.setIfInBounds_toArray, List.set_cons_zero, List.set_cons_succ]
        refine wpAnyH_take (i := 4) (oi := { dst := some 117, op := Op.load 31 (Operand.tmp 13), type := 31, pos := "law.go:73", after := #[{ on := 2, ground := Ground.guard }], guard := some (2, false) }) (v := ?_) rfl (by kernel_rfl) (by kernel_rfl) (by kernel_rfl) (fun _ _ _ h => h) (Or.inl ⟨by rfl, ?_⟩) (by assumption) ?_
        rotate_left
        · (intro wS hSw; (try dsimp only at hSw); go_simp; (try with_reducible rfl))
        try simp only [Act.put, List.setIfInBounds_toArray, List.set_cons_zero, List.set_cons_succ]
        refine wpAnyH_take (i := 5) (oi := { dst := some 118, op := Op.binOp BinOp.neq 31 (Operand.tmp 116) (Operand.tmp 117) 31, type := 4, pos := "law.go:73", after := #[{ on := 3, ground := Ground.data }, { on := 4, ground := Ground.data }, { on := 2, ground := Ground.guard }], guard := some (2, false) }) (v := ?_) rfl (by kernel_rfl) (by kernel_rfl) (by kernel_rfl) (fun _ _ _ h => h) (Or.inl ⟨by rfl, ?_⟩) (by assumption) ?_
        rotate_left
        · (intro wS hSw; (try dsimp only at hSw); go_simp; (try with_reducible rfl))
        try simp only [Act.put, List.setIfInBounds_toArray, List.set_cons_zero, List.set_cons_succ]
        refine wpAnyH_take (i := 6) (oi := { dst := some 119, op := Op.pick (Operand.tmp 115) (Operand.const (Value.bool true)) (Operand.tmp 118), type := 4, pos := "law.go:73", after := #[{ on := 2, ground := Ground.data }, { on := 5, ground := Ground.data }], guard := none }) (v := ?_) rfl (by kernel_rfl) (by kernel_rfl) (by kernel_rfl) (fun _ _ _ h => h) (Or.inl ⟨by rfl, ?_⟩) (by assumption) ?_
        rotate_left
        · (intro wS hSw; (try dsimp only at hSw); go_simp; (try with_reducible rfl))
        try simp only [Act.put, List.setIfInBounds_toArray, List.set_cons_zero, List.set_cons_succ]
        refine wpAnyH_take (i := 7) (oi := { dst := some 120, op := Op.move (Operand.tmp 119), type := 4, pos := "law.go:73", after := #[{ on := 6, ground := Ground.data }, { on := 2, ground := Ground.chain }], guard := none }) (v := ?_) rfl (by kernel_rfl) (by kernel_rfl) (by kernel_rfl) (fun _ _ _ h => h) (Or.inl ⟨by rfl, ?_⟩) (by assumption) ?_
        rotate_left
        · (intro wS hSw; (try dsimp only at hSw); go_simp; (try with_reducible rfl))
        try simp only [Act.put, List.setIfInBounds_toArray, List.set_cons_zero, List.set_cons_succ]
        refine wpAnyH_take (i := 8) (oi := { dst := some 121, op := Op.move (Operand.tmp 12), type := 4, pos := "law.go:73", after := #[{ on := 7, ground := Ground.guard }], guard := some (7, false) }) (v := ?_) rfl (by kernel_rfl) (by kernel_rfl) (by kernel_rfl) (fun _ _ _ h => h) (Or.inl ⟨by rfl, ?_⟩) (by assumption) ?_
        rotate_left
        · (intro wS hSw; (try dsimp only at hSw); go_simp; (try with_reducible rfl))
        try simp only [Act.put, List.setIfInBounds_toArray, List.set_cons_zero, List.set_cons_succ]
        refine wpAnyH_take (i := 9) (oi := { dst := some 122, op := Op.move (Operand.tmp 14), type := 4, pos := "law.go:73", after := #[{ on := 7, ground := Ground.guard }], guard := some (7, false) }) (v := ?_) rfl (by kernel_rfl) (by kernel_rfl) (by kernel_rfl) (fun _ _ _ h => h) (Or.inl ⟨by rfl, ?_⟩) (by assumption) ?_
        rotate_left
        · (intro wS hSw; (try dsimp only at hSw); go_simp; (try with_reducible rfl))
        try simp only [Act.put, List.setIfInBounds_toArray, List.set_cons_zero, List.set_cons_succ]
        refine wpAnyH_take (i := 10) (oi := { dst := some 123, op := Op.binOp BinOp.neq 4 (Operand.tmp 121) (Operand.tmp 122) 4, type := 4, pos := "law.go:73", after := #[{ on := 8, ground := Ground.data }, { on := 9, ground := Ground.data }, { on := 7, ground := Ground.guard }], guard := some (7, false) }) (v := ?_) rfl (by kernel_rfl) (by kernel_rfl) (by kernel_rfl) (fun _ _ _ h => h) (Or.inl ⟨by rfl, ?_⟩) (by assumption) ?_
        rotate_left
        · (intro wS hSw; (try dsimp only at hSw); go_simp; (try with_reducible rfl))
        try simp only [Act.put, List.setIfInBounds_toArray, List.set_cons_zero, List.set_cons_succ]
        refine wpAnyH_take (i := 11) (oi := { dst := some 124, op := Op.pick (Operand.tmp 120) (Operand.const (Value.bool true)) (Operand.tmp 123), type := 4, pos := "law.go:73", after := #[{ on := 7, ground := Ground.data }, { on := 10, ground := Ground.data }], guard := none }) (v := ?_) rfl (by kernel_rfl) (by kernel_rfl) (by kernel_rfl) (fun _ _ _ h => h) (Or.inl ⟨by rfl, ?_⟩) (by assumption) ?_
        rotate_left
        · (intro wS hSw; (try dsimp only at hSw); go_simp; (try with_reducible rfl))
        try simp only [Act.put, List.setIfInBounds_toArray, List.set_cons_zero, List.set_cons_succ]
        refine wpAnyH_take (i := 12) (oi := { dst := some 125, op := Op.move (Operand.tmp 124), type := 4, pos := "law.go:73", after := #[{ on := 11, ground := Ground.data }, { on := 7, ground := Ground.chain }], guard := none }) (v := ?_) rfl (by kernel_rfl) (by kernel_rfl) (by kernel_rfl) (fun _ _ _ h => h) (Or.inl ⟨by rfl, ?_⟩) (by assumption) ?_
        rotate_left
        · (intro wS hSw; (try dsimp only at hSw); go_simp; (try with_reducible rfl))
        try simp only [Act.put, List.setIfInBounds_toArray, List.set_cons_zero, List.set_cons_succ]
        refine wpAnyH_take (i := 13) (oi := { dst := some 126, op := Op.move (Operand.tmp 15), type := 3, pos := "law.go:73", after := #[{ on := 12, ground := Ground.guard }], guard := some (12, false) }) (v := ?_) rfl (by kernel_rfl) (by kernel_rfl) (by kernel_rfl) (fun _ _ _ h => h) (Or.inl ⟨by rfl, ?_⟩) (by assumption) ?_
        rotate_left
        · (intro wS hSw; (try dsimp only at hSw); go_simp; (try with_reducible rfl))
        try simp only [Act.put, List.setIfInBounds_toArray, List.set_cons_zero, List.set_cons_succ]
        refine wpAnyH_take (i := 14) (oi := { dst := some 127, op := Op.move (Operand.tmp 17), type := 3, pos := "law.go:73", after := #[{ on := 12, ground := Ground.guard }], guard := some (12, false) }) (v := ?_) rfl (by kernel_rfl) (by kernel_rfl) (by kernel_rfl) (fun _ _ _ h => h) (Or.inl ⟨by rfl, ?_⟩) (by assumption) ?_
        rotate_left
        · (intro wS hSw; (try dsimp only at hSw); go_simp; (try with_reducible rfl))
        try simp only [Act.put, List.setIfInBounds_toArray, List.set_cons_zero, List.set_cons_succ]
        refine wpAnyH_take (i := 15) (oi := { dst := some 128, op := Op.binOp BinOp.neq 3 (Operand.tmp 126) (Operand.tmp 127) 3, type := 4, pos := "law.go:73", after := #[{ on := 13, ground := Ground.data }, { on := 14, ground := Ground.data }, { on := 12, ground := Ground.guard }], guard := some (12, false) }) (v := ?_) rfl (by kernel_rfl) (by kernel_rfl) (by kernel_rfl) (fun _ _ _ h => h) (Or.inl ⟨by rfl, ?_⟩) (by assumption) ?_
        rotate_left
        · (intro wS hSw; (try dsimp only at hSw); go_simp; (try with_reducible rfl))
        try simp only [Act.put, List.setIfInBounds_toArray, List.set_cons_zero, List.set_cons_succ]
        refine wpAnyH_take (i := 16) (oi := { dst := some 129, op := Op.pick (Operand.tmp 125) (Operand.const (Value.bool true)) (Operand.tmp 128), type := 4, pos := "law.go:73", after := #[{ on := 12, ground := Ground.data }, { on := 15, ground := Ground.data }], guard := none }) (v := ?_) rfl (by kernel_rfl) (by kernel_rfl) (by kernel_rfl) (fun _ _ _ h => h) (Or.inl ⟨by rfl, ?_⟩) (by assumption) ?_
        rotate_left
        · (intro wS hSw; (try dsimp only at hSw); go_simp; (try with_reducible rfl))
        try simp only [Act.put, List.setIfInBounds_toArray, List.set_cons_zero, List.set_cons_succ]
        refine wpAnyH_take (i := 17) (oi := { dst := some 130, op := Op.move (Operand.tmp 129), type := 4, pos := "law.go:73", after := #[{ on := 16, ground := Ground.data }, { on := 12, ground := Ground.chain }], guard := none }) (v := ?_) rfl (by kernel_rfl) (by kernel_rfl) (by kernel_rfl) (fun _ _ _ h => h) (Or.inl ⟨by rfl, ?_⟩) (by assumption) ?_
        rotate_left
        · (intro wS hSw; (try dsimp only at hSw); go_simp; (try with_reducible rfl))
        try simp only [Act.put, List.setIfInBounds_toArray, List.set_cons_zero, List.set_cons_succ]
        refine wpAnyH_take (i := 18) (oi := { dst := some 131, op := Op.move (Operand.tmp 16), type := 4, pos := "law.go:73", after := #[{ on := 17, ground := Ground.guard }], guard := some (17, false) }) (v := ?_) rfl (by kernel_rfl) (by kernel_rfl) (by kernel_rfl) (fun _ _ _ h => h) (Or.inl ⟨by rfl, ?_⟩) (by assumption) ?_
        rotate_left
        · (intro wS hSw; (try dsimp only at hSw); go_simp; (try with_reducible rfl))
        try simp only [Act.put, List.setIfInBounds_toArray, List.set_cons_zero, List.set_cons_succ]
        refine wpAnyH_take (i := 19) (oi := { dst := some 132, op := Op.move (Operand.tmp 18), type := 4, pos := "law.go:73", after := #[{ on := 17, ground := Ground.guard }], guard := some (17, false) }) (v := ?_) rfl (by kernel_rfl) (by kernel_rfl) (by kernel_rfl) (fun _ _ _ h => h) (Or.inl ⟨by rfl, ?_⟩) (by assumption) ?_
        rotate_left
        · (intro wS hSw; (try dsimp only at hSw); go_simp; (try with_reducible rfl))
        try simp only [Act.put, List.setIfInBounds_toArray, List.set_cons_zero, List.set_cons_succ]
        refine wpAnyH_take (i := 20) (oi := { dst := some 133, op := Op.binOp BinOp.neq 4 (Operand.tmp 131) (Operand.tmp 132) 4, type := 4, pos := "law.go:73", after := #[{ on := 18, ground := Ground.data }, { on := 19, ground := Ground.data }, { on := 17, ground := Ground.guard }], guard := some (17, false) }) (v := ?_) rfl (by kernel_rfl) (by kernel_rfl) (by kernel_rfl) (fun _ _ _ h => h) (Or.inl ⟨by rfl, ?_⟩) (by assumption) ?_
        rotate_left
        · (intro wS hSw; (try dsimp only at hSw); go_simp; (try with_reducible rfl))
        try simp only [Act.put, List.setIfInBounds_toArray, List.set_cons_zero, List.set_cons_succ]
        refine wpAnyH_take (i := 21) (oi := { dst := some 134, op := Op.pick (Operand.tmp 130) (Operand.const (Value.bool true)) (Operand.tmp 133), type := 4, pos := "law.go:73", after := #[{ on := 17, ground := Ground.data }, { on := 20, ground := Ground.data }], guard := none }) (v := ?_) rfl (by kernel_rfl) (by kernel_rfl) (by kernel_rfl) (fun _ _ _ h => h) (Or.inl ⟨by rfl, ?_⟩) (by assumption) ?_
        rotate_left
        · (intro wS hSw; (try dsimp only at hSw); go_simp; (try with_reducible rfl))
        try simp only [Act.put, List.setIfInBounds_toArray, List.set_cons_zero, List.set_cons_succ]
        refine wpAnyH_take (i := 22) (oi := { dst := some 135, op := Op.move (Operand.tmp 134), type := 4, pos := "law.go:73", after := #[{ on := 21, ground := Ground.data }, { on := 17, ground := Ground.chain }], guard := none }) (v := ?_) rfl (by kernel_rfl) (by kernel_rfl) (by kernel_rfl) (fun _ _ _ h => h) (Or.inl ⟨by rfl, ?_⟩) (by assumption) ?_
        rotate_left
        · (intro wS hSw; (try dsimp only at hSw); go_simp; (try with_reducible rfl))
        try simp only [Act.put, List.setIfInBounds_toArray, List.set_cons_zero, List.set_cons_succ]
        refine wpAnyH_take (i := 23) (oi := { dst := some 136, op := Op.move (Operand.tmp 5), type := 26, pos := "law.go:73", after := #[{ on := 22, ground := Ground.guard }], guard := some (22, false) }) (v := ?_) rfl (by kernel_rfl) (by kernel_rfl) (by kernel_rfl) (fun _ _ _ h => h) (Or.inl ⟨by rfl, ?_⟩) (by assumption) ?_
        rotate_left
        · (intro wS hSw; (try dsimp only at hSw); go_simp; (try with_reducible rfl))
        try simp only [Act.put, List.setIfInBounds_toArray, List.set_cons_zero, List.set_cons_succ]
        refine wpAnyH_take (i := 24) (oi := { dst := some 137, op := Op.fieldAddr 33 (Operand.tmp 8) 2, type := 0, pos := "law.go:73", after := #[{ on := 22, ground := Ground.guard }], guard := some (22, false) }) (v := ?_) rfl (by kernel_rfl) (by kernel_rfl) (by kernel_rfl) (fun _ _ _ h => h) (Or.inl ⟨by rfl, ?_⟩) (by assumption) ?_
        rotate_left
        · (intro wS hSw; (try dsimp only at hSw); go_simp; (try with_reducible rfl))
        try simp only [Act.put, List.setIfInBounds_toArray, List.set_cons_zero, List.set_cons_succ]
        refine wpAnyH_take (i := 25) (oi := { dst := some 138, op := Op.fieldAddr 31 (Operand.tmp 137) 0, type := 0, pos := "law.go:73", after := #[{ on := 24, ground := Ground.data }, { on := 22, ground := Ground.guard }], guard := some (22, false) }) (v := ?_) rfl (by kernel_rfl) (by kernel_rfl) (by kernel_rfl) (fun _ _ _ h => h) (Or.inl ⟨by rfl, ?_⟩) (by assumption) ?_
        rotate_left
        · (intro wS hSw; (try dsimp only at hSw); go_simp; (try with_reducible rfl))
        try simp only [Act.put, List.setIfInBounds_toArray, List.set_cons_zero, List.set_cons_succ]
        refine wpAnyH_take (i := 26) (oi := { dst := some 139, op := Op.load 3 (Operand.tmp 138), type := 3, pos := "law.go:73", after := #[{ on := 25, ground := Ground.data }, { on := 22, ground := Ground.guard }], guard := some (22, false) }) (v := ?_) rfl (by kernel_rfl) (by kernel_rfl) (by kernel_rfl) (fun _ _ _ h => h) (Or.inl ⟨by rfl, ?_⟩) (by assumption) ?_
        rotate_left
        · (intro wS hSw; (try dsimp only at hSw); go_simp; (try with_reducible rfl))
        try simp only [Act.put, List.setIfInBounds_toArray, List.set_cons_zero, List.set_cons_succ]
        refine wpAnyH_take (i := 28) (oi := { dst := some 141, op := Op.move (Operand.tmp 6), type := 28, pos := "law.go:73", after := #[{ on := 22, ground := Ground.guard }], guard := some (22, false) }) (v := ?_) rfl (by kernel_rfl) (by kernel_rfl) (by kernel_rfl) (fun _ _ _ h => h) (Or.inl ⟨by rfl, ?_⟩) (by assumption) ?_
        rotate_left
        · (intro wS hSw; (try dsimp only at hSw); go_simp; (try with_reducible rfl))
        try simp only [Act.put, List.setIfInBounds_toArray, List.set_cons_zero, List.set_cons_succ]
        refine wpAnyH_take (i := 29) (oi := { dst := some 142, op := Op.fieldAddr 33 (Operand.tmp 8) 2, type := 0, pos := "law.go:73", after := #[{ on := 22, ground := Ground.guard }], guard := some (22, false) }) (v := ?_) rfl (by kernel_rfl) (by kernel_rfl) (by kernel_rfl) (fun _ _ _ h => h) (Or.inl ⟨by rfl, ?_⟩) (by assumption) ?_
        rotate_left
        · (intro wS hSw; (try dsimp only at hSw); go_simp; (try with_reducible rfl))
        try simp only [Act.put, List.setIfInBounds_toArray, List.set_cons_zero, List.set_cons_succ]
        refine wpAnyH_take (i := 30) (oi := { dst := some 143, op := Op.fieldAddr 31 (Operand.tmp 142) 0, type := 0, pos := "law.go:73", after := #[{ on := 29, ground := Ground.data }, { on := 22, ground := Ground.guard }], guard := some (22, false) }) (v := ?_) rfl (by kernel_rfl) (by kernel_rfl) (by kernel_rfl) (fun _ _ _ h => h) (Or.inl ⟨by rfl, ?_⟩) (by assumption) ?_
        rotate_left
        · (intro wS hSw; (try dsimp only at hSw); go_simp; (try with_reducible rfl))
        try simp only [Act.put, List.setIfInBounds_toArray, List.set_cons_zero, List.set_cons_succ]
        refine wpAnyH_take (i := 31) (oi := { dst := some 144, op := Op.load 3 (Operand.tmp 143), type := 3, pos := "law.go:73", after := #[{ on := 30, ground := Ground.data }, { on := 22, ground := Ground.guard }], guard := some (22, false) }) (v := ?_) rfl (by kernel_rfl) (by kernel_rfl) (by kernel_rfl) (fun _ _ _ h => h) (Or.inl ⟨by rfl, ?_⟩) (by assumption) ?_
        rotate_left
        · (intro wS hSw; (try dsimp only at hSw); go_simp; (try with_reducible rfl))
        try simp only [Act.put, List.setIfInBounds_toArray, List.set_cons_zero, List.set_cons_succ]
        refine wpAnyH_ready (rs := [27]) (by kernel_rfl) (by simp) ?_
        refine AllReadyH.cons (o := { dst := some 140, op := Op.call { callee := Callee.value (Operand.func 19), args := #[Operand.tmp 136, Operand.tmp 139], argTypes := #[26, 3] }, type := 3, pos := "law.go:73", after := #[{ on := 23, ground := Ground.data }, { on := 26, ground := Ground.data }, { on := 22, ground := Ground.chain }, { on := 22, ground := Ground.guard }], guard := some (22, false) }) rfl (fun K hK => ?_) AllReadyH.nil
        go_simp
        (first
              | (go_at_call 19; ((with_reducible refine (live_b _ _ _ _ _ _ _ _ _ _ _ _ z2 LK _ (by first | exact hM | exact hM.drew) HM (by omega) HAB.out hlv.out).mono ?_); rintro e' wN ⟨rfl, hb⟩; replace hM := MapW.likeB hM hb; replace hR := RefW.likeB hR hb; (try have hb := undrew1 hb); replace ho := own_below ho hb; replace hbz := Nat.le_trans hbz hb.size; replace HBr := btr HBr (Nat.le_trans hBw HBr.size) hb; replace XB := XB.below hb XB.lt; (try clear x0 x1 x2 x3); obtain ⟨x0, x1, x2, x3⟩ := cells4 XB; replace Q1 := Q1.below hb Q1.lt; (try clear p10 p11); obtain ⟨p10, p11⟩ := cells2 Q1; replace Q2 := Q2.below hb Q2.lt; (try clear p20 p21); obtain ⟨p20, p21⟩ := cells2 Q2; clear hb))
              | (go_at_call 20; ((with_reducible refine (rlive_b _ _ _ _ _ _ _ _ _ _ _ z2 LK _ (by first | exact hR | exact hR.drew) HI.out HM (by omega) (by omega) HAB.out hlv.out).mono ?_); rintro e' wN ⟨rfl, hb⟩; replace hM := MapW.likeB hM hb; replace hR := RefW.likeB hR hb; (try have hb := undrew1 hb); replace ho := own_below ho hb; replace hbz := Nat.le_trans hbz hb.size; replace HBr := btr HBr (Nat.le_trans hBw HBr.size) hb; replace XB := XB.below hb XB.lt; (try clear x0 x1 x2 x3); obtain ⟨x0, x1, x2, x3⟩ := cells4 XB; replace Q1 := Q1.below hb Q1.lt; (try clear p10 p11); obtain ⟨p10, p11⟩ := cells2 Q1; replace Q2 := Q2.below hb Q2.lt; (try clear p20 p21); obtain ⟨p20, p21⟩ := cells2 Q2; clear hb))
              | (go_at_call 22; ((with_reducible refine (rpages_b _ _ _ _ _ _ _ _ _ _ _ PS k _ (by first | exact hR | exact hR.drew) HI.out (by omega) (by omega) hps.out HK.out).mono ?_); rintro e' wN ⟨A5, c5, rfl, hS5, hb⟩; replace hM := MapW.likeB hM hb; replace hR := RefW.likeB hR hb; (try have hb := undrew1 hb); replace ho := own_below ho hb; replace hbz := Nat.le_trans hbz hb.size; replace HBr := btr HBr (Nat.le_trans hBw HBr.size) hb; replace XB := XB.below hb XB.lt; (try clear x0 x1 x2 x3); obtain ⟨x0, x1, x2, x3⟩ := cells4 XB; replace Q1 := Q1.below hb Q1.lt; (try clear p10 p11); obtain ⟨p10, p11⟩ := cells2 Q1; replace Q2 := Q2.below hb Q2.lt; (try clear p20 p21); obtain ⟨p20, p21⟩ := cells2 Q2; clear hb))
              | (go_at_call 21; ((with_reducible refine (sameI_b true PS PS k k HK.out HK.out (by simp) _ _ _ _ _ (by first | exact Sl.of_own ho | exact (Sl.of_own ho).drewS) (by first | exact hS5 | exact hS5.drewS) (by omega) (by omega)).mono ?_); rintro e' wN ⟨rfl, hb⟩; replace hM := MapW.likeB hM hb; replace hR := RefW.likeB hR hb; (try have hb := undrew1 hb); replace ho := own_below ho hb; replace hbz := Nat.le_trans hbz hb.size; replace HBr := btr HBr (Nat.le_trans hBw HBr.size) hb; replace XB := XB.below hb XB.lt; (try clear x0 x1 x2 x3); obtain ⟨x0, x1, x2, x3⟩ := cells4 XB; replace Q1 := Q1.below hb Q1.lt; (try clear p10 p11); obtain ⟨p10, p11⟩ := cells2 Q1; replace Q2 := Q2.below hb Q2.lt; (try clear p20 p21); obtain ⟨p20, p21⟩ := cells2 Q2; clear hb hS5)))
        go_wp2_with fail
        refine hK.out _ _ ?_ (fun hNew => ?_)
        · (first | exact ⟨p10, p11, p20, p21, x2⟩ | assumption)
        clear hK K hHeld
        have hHeld := hNew
        clear hNew
        try simp only [Act.put, List.setIfInBounds_toArray, List.set_cons_zero, List.set_cons_succ]
        refine wpAnyH_ready (rs := [32]) (by kernel_rfl) (by simp) ?_
        refine AllReadyH.cons (o := { dst := some 145, op := Op.call { callee := Callee.value (Operand.func 20), args := #[Operand.tmp 141, Operand.tmp 144], argTypes := #[28, 3] }, type := 3, pos := "law.go:73", after := #[{ on := 28, ground := Ground.data }, { on := 31, ground := Ground.data }, { on := 27, ground := Ground.chain }, { on := 22, ground := Ground.guard }], guard := some (22, false) }) rfl (fun K hK => ?_) AllReadyH.nil
        go_simp
        (first
              | (go_at_call 19; ((with_reducible refine (live_b _ _ _ _ _ _ _ _ _ _ _ _ z2 LK _ (by first | exact hM | exact hM.drew) HM (by omega) HAB.out hlv.out).mono ?_); rintro e' wN ⟨rfl, hb⟩; replace hM := MapW.likeB hM hb; replace hR := RefW.likeB hR hb; (try have hb := undrew1 hb); replace ho := own_below ho hb; replace hbz := Nat.le_trans hbz hb.size; replace HBr := btr HBr (Nat.le_trans hBw HBr.size) hb; replace XB := XB.below hb XB.lt; (try clear x0 x1 x2 x3); obtain ⟨x0, x1, x2, x3⟩ := cells4 XB; replace Q1 := Q1.below hb Q1.lt; (try clear p10 p11); obtain ⟨p10, p11⟩ := cells2 Q1; replace Q2 := Q2.below hb Q2.lt; (try clear p20 p21); obtain ⟨p20, p21⟩ := cells2 Q2; clear hb))
              | (go_at_call 20; ((with_reducible refine (rlive_b _ _ _ _ _ _ _ _ _ _ _ z2 LK _ (by first | exact hR | exact hR.drew) HI.out HM (by omega) (by omega) HAB.out hlv.out).mono ?_); rintro e' wN ⟨rfl, hb⟩; replace hM := MapW.likeB hM hb; replace hR := RefW.likeB hR hb; (try have hb := undrew1 hb); replace ho := own_below ho hb; replace hbz := Nat.le_trans hbz hb.size; replace HBr := btr HBr (Nat.le_trans hBw HBr.size) hb; replace XB := XB.below hb XB.lt; (try clear x0 x1 x2 x3); obtain ⟨x0, x1, x2, x3⟩ := cells4 XB; replace Q1 := Q1.below hb Q1.lt; (try clear p10 p11); obtain ⟨p10, p11⟩ := cells2 Q1; replace Q2 := Q2.below hb Q2.lt; (try clear p20 p21); obtain ⟨p20, p21⟩ := cells2 Q2; clear hb))
              | (go_at_call 22; ((with_reducible refine (rpages_b _ _ _ _ _ _ _ _ _ _ _ PS k _ (by first | exact hR | exact hR.drew) HI.out (by omega) (by omega) hps.out HK.out).mono ?_); rintro e' wN ⟨A5, c5, rfl, hS5, hb⟩; replace hM := MapW.likeB hM hb; replace hR := RefW.likeB hR hb; (try have hb := undrew1 hb); replace ho := own_below ho hb; replace hbz := Nat.le_trans hbz hb.size; replace HBr := btr HBr (Nat.le_trans hBw HBr.size) hb; replace XB := XB.below hb XB.lt; (try clear x0 x1 x2 x3); obtain ⟨x0, x1, x2, x3⟩ := cells4 XB; replace Q1 := Q1.below hb Q1.lt; (try clear p10 p11); obtain ⟨p10, p11⟩ := cells2 Q1; replace Q2 := Q2.below hb Q2.lt; (try clear p20 p21); obtain ⟨p20, p21⟩ := cells2 Q2; clear hb))
              | (go_at_call 21; ((with_reducible refine (sameI_b true PS PS k k HK.out HK.out (by simp) _ _ _ _ _ (by first | exact Sl.of_own ho | exact (Sl.of_own ho).drewS) (by first | exact hS5 | exact hS5.drewS) (by omega) (by omega)).mono ?_); rintro e' wN ⟨rfl, hb⟩; replace hM := MapW.likeB hM hb; replace hR := RefW.likeB hR hb; (try have hb := undrew1 hb); replace ho := own_below ho hb; replace hbz := Nat.le_trans hbz hb.size; replace HBr := btr HBr (Nat.le_trans hBw HBr.size) hb; replace XB := XB.below hb XB.lt; (try clear x0 x1 x2 x3); obtain ⟨x0, x1, x2, x3⟩ := cells4 XB; replace Q1 := Q1.below hb Q1.lt; (try clear p10 p11); obtain ⟨p10, p11⟩ := cells2 Q1; replace Q2 := Q2.below hb Q2.lt; (try clear p20 p21); obtain ⟨p20, p21⟩ := cells2 Q2; clear hb hS5)))
        go_wp2_with fail
        refine hK.out _ _ ?_ (fun hNew => ?_)
        · (first | exact ⟨p10, p11, p20, p21, x2⟩ | assumption)
        clear hK K hHeld
        have hHeld := hNew
        clear hNew
        try simp only [Act.put, List.setIfInBounds_toArray, List.set_cons_zero, List.set_cons_succ]
        refine wpAnyH_take (i := 33) (oi := { dst := some 146, op := Op.binOp BinOp.neq 3 (Operand.tmp 140) (Operand.tmp 145) 3, type := 4, pos := "law.go:73", after := #[{ on := 27, ground := Ground.data }, { on := 32, ground := Ground.data }, { on := 22, ground := Ground.guard }], guard := some (22, false) }) (v := ?_) rfl (by kernel_rfl) (by kernel_rfl) (by kernel_rfl) (fun _ _ _ h => h) (Or.inl ⟨by rfl, ?_⟩) (by assumption) ?_
        rotate_left
        · (intro wS hSw; (try dsimp only at hSw); go_simp; (try with_reducible rfl))
        try simp only [Act.put, List.setIfInBounds_toArray, List.set_cons_zero, List.set_cons_succ]
        refine wpAnyH_take (i := 34) (oi := { dst := some 147, op := Op.pick (Operand.tmp 135) (Operand.const (Value.bool true)) (Operand.tmp 146), type := 4, pos := "law.go:73", after := #[{ on := 22, ground := Ground.data }, { on := 33, ground := Ground.data }], guard := none }) (v := ?_) rfl (by kernel_rfl) (by kernel_rfl) (by kernel_rfl) (fun _ _ _ h => h) (Or.inl ⟨by rfl, ?_⟩) (by assumption) ?_
        rotate_left
        · (intro wS hSw; (try dsimp only at hSw); go_simp; (try with_reducible rfl))
        try simp only [Act.put, List.setIfInBounds_toArray, List.set_cons_zero, List.set_cons_succ]
        refine wpAnyH_take (i := 35) (oi := { dst := some 148, op := Op.move (Operand.tmp 147), type := 4, pos := "law.go:73", after := #[{ on := 34, ground := Ground.data }, { on := 32, ground := Ground.chain }], guard := none }) (v := ?_) rfl (by kernel_rfl) (by kernel_rfl) (by kernel_rfl) (fun _ _ _ h => h) (Or.inl ⟨by rfl, ?_⟩) (by assumption) ?_
        rotate_left
        · (intro wS hSw; (try dsimp only at hSw); go_simp; (try with_reducible rfl))
        try simp only [Act.put, List.setIfInBounds_toArray, List.set_cons_zero, List.set_cons_succ]
        refine wpAnyH_take (i := 36) (oi := { dst := some 149, op := Op.move (Operand.tmp 19), type := 41, pos := "law.go:73", after := #[{ on := 35, ground := Ground.guard }], guard := some (35, false) }) (v := ?_) rfl (by kernel_rfl) (by kernel_rfl) (by kernel_rfl) (fun _ _ _ h => h) (Or.inl ⟨by rfl, ?_⟩) (by assumption) ?_
        rotate_left
        · (intro wS hSw; (try dsimp only at hSw); go_simp; (try with_reducible rfl))
        try simp only [Act.put, List.setIfInBounds_toArray, List.set_cons_zero, List.set_cons_succ]
        refine wpAnyH_take (i := 37) (oi := { dst := some 150, op := Op.move (Operand.tmp 6), type := 28, pos := "law.go:73", after := #[{ on := 35, ground := Ground.guard }], guard := some (35, false) }) (v := ?_) rfl (by kernel_rfl) (by kernel_rfl) (by kernel_rfl) (fun _ _ _ h => h) (Or.inl ⟨by rfl, ?_⟩) (by assumption) ?_
        rotate_left
        · (intro wS hSw; (try dsimp only at hSw); go_simp; (try with_reducible rfl))
        try simp only [Act.put, List.setIfInBounds_toArray, List.set_cons_zero, List.set_cons_succ]
        refine wpAnyH_ready (rs := [38]) (by kernel_rfl) (by simp) ?_
        refine AllReadyH.cons (o := { dst := some 151, op := Op.call { callee := Callee.value (Operand.func 22), args := #[Operand.tmp 150], argTypes := #[28] }, type := 41, pos := "law.go:73", after := #[{ on := 37, ground := Ground.data }, { on := 35, ground := Ground.chain }, { on := 35, ground := Ground.guard }], guard := some (35, false) }) rfl (fun K hK => ?_) AllReadyH.nil
        go_simp
        (first
              | (go_at_call 19; ((with_reducible refine (live_b _ _ _ _ _ _ _ _ _ _ _ _ z2 LK _ (by first | exact hM | exact hM.drew) HM (by omega) HAB.out hlv.out).mono ?_); rintro e' wN ⟨rfl, hb⟩; replace hM := MapW.likeB hM hb; replace hR := RefW.likeB hR hb; (try have hb := undrew1 hb); replace ho := own_below ho hb; replace hbz := Nat.le_trans hbz hb.size; replace HBr := btr HBr (Nat.le_trans hBw HBr.size) hb; replace XB := XB.below hb XB.lt; (try clear x0 x1 x2 x3); obtain ⟨x0, x1, x2, x3⟩ := cells4 XB; replace Q1 := Q1.below hb Q1.lt; (try clear p10 p11); obtain ⟨p10, p11⟩ := cells2 Q1; replace Q2 := Q2.below hb Q2.lt; (try clear p20 p21); obtain ⟨p20, p21⟩ := cells2 Q2; clear hb))
              | (go_at_call 20; ((with_reducible refine (rlive_b _ _ _ _ _ _ _ _ _ _ _ z2 LK _ (by first | exact hR | exact hR.drew) HI.out HM (by omega) (by omega) HAB.out hlv.out).mono ?_); rintro e' wN ⟨rfl, hb⟩; replace hM := MapW.likeB hM hb; replace hR := RefW.likeB hR hb; (try have hb := undrew1 hb); replace ho := own_below ho hb; replace hbz := Nat.le_trans hbz hb.size; replace HBr := btr HBr (Nat.le_trans hBw HBr.size) hb; replace XB := XB.below hb XB.lt; (try clear x0 x1 x2 x3); obtain ⟨x0, x1, x2, x3⟩ := cells4 XB; replace Q1 := Q1.below hb Q1.lt; (try clear p10 p11); obtain ⟨p10, p11⟩ := cells2 Q1; replace Q2 := Q2.below hb Q2.lt; (try clear p20 p21); obtain ⟨p20, p21⟩ := cells2 Q2; clear hb))
              | (go_at_call 22; ((with_reducible refine (rpages_b _ _ _ _ _ _ _ _ _ _ _ PS k _ (by first | exact hR | exact hR.drew) HI.out (by omega) (by omega) hps.out HK.out).mono ?_); rintro e' wN ⟨A5, c5, rfl, hS5, hb⟩; replace hM := MapW.likeB hM hb; replace hR := RefW.likeB hR hb; (try have hb := undrew1 hb); replace ho := own_below ho hb; replace hbz := Nat.le_trans hbz hb.size; replace HBr := btr HBr (Nat.le_trans hBw HBr.size) hb; replace XB := XB.below hb XB.lt; (try clear x0 x1 x2 x3); obtain ⟨x0, x1, x2, x3⟩ := cells4 XB; replace Q1 := Q1.below hb Q1.lt; (try clear p10 p11); obtain ⟨p10, p11⟩ := cells2 Q1; replace Q2 := Q2.below hb Q2.lt; (try clear p20 p21); obtain ⟨p20, p21⟩ := cells2 Q2; clear hb))
              | (go_at_call 21; ((with_reducible refine (sameI_b true PS PS k k HK.out HK.out (by simp) _ _ _ _ _ (by first | exact Sl.of_own ho | exact (Sl.of_own ho).drewS) (by first | exact hS5 | exact hS5.drewS) (by omega) (by omega)).mono ?_); rintro e' wN ⟨rfl, hb⟩; replace hM := MapW.likeB hM hb; replace hR := RefW.likeB hR hb; (try have hb := undrew1 hb); replace ho := own_below ho hb; replace hbz := Nat.le_trans hbz hb.size; replace HBr := btr HBr (Nat.le_trans hBw HBr.size) hb; replace XB := XB.below hb XB.lt; (try clear x0 x1 x2 x3); obtain ⟨x0, x1, x2, x3⟩ := cells4 XB; replace Q1 := Q1.below hb Q1.lt; (try clear p10 p11); obtain ⟨p10, p11⟩ := cells2 Q1; replace Q2 := Q2.below hb Q2.lt; (try clear p20 p21); obtain ⟨p20, p21⟩ := cells2 Q2; clear hb hS5)))
        go_wp2_with fail
        refine hK.out _ _ ?_ (fun hNew => ?_)
        · (first | exact ⟨p10, p11, p20, p21, x2⟩ | assumption)
        clear hK K hHeld
        have hHeld := hNew
        clear hNew
        try simp only [Act.put, List.setIfInBounds_toArray, List.set_cons_zero, List.set_cons_succ]
        refine wpAnyH_ready (rs := [39]) (by kernel_rfl) (by simp) ?_
        refine AllReadyH.cons (o := { dst := some 152, op := Op.call { callee := Callee.value (Operand.func 21), args := #[Operand.tmp 149, Operand.tmp 151], argTypes := #[41, 41] }, type := 4, pos := "law.go:73", after := #[{ on := 36, ground := Ground.data }, { on := 38, ground := Ground.data }, { on := 38, ground := Ground.chain }, { on := 35, ground := Ground.guard }], guard := some (35, false) }) rfl (fun K hK => ?_) AllReadyH.nil
        go_simp
        (first
              | (go_at_call 19; ((with_reducible refine (live_b _ _ _ _ _ _ _ _ _ _ _ _ z2 LK _ (by first | exact hM | exact hM.drew) HM (by omega) HAB.out hlv.out).mono ?_); rintro e' wN ⟨rfl, hb⟩; replace hM := MapW.likeB hM hb; replace hR := RefW.likeB hR hb; (try have hb := undrew1 hb); replace ho := own_below ho hb; replace hbz := Nat.le_trans hbz hb.size; replace HBr := btr HBr (Nat.le_trans hBw HBr.size) hb; replace XB := XB.below hb XB.lt; (try clear x0 x1 x2 x3); obtain ⟨x0, x1, x2, x3⟩ := cells4 XB; replace Q1 := Q1.below hb Q1.lt; (try clear p10 p11); obtain ⟨p10, p11⟩ := cells2 Q1; replace Q2 := Q2.below hb Q2.lt; (try clear p20 p21); obtain ⟨p20, p21⟩ := cells2 Q2; clear hb))
              | (go_at_call 20; ((with_reducible refine (rlive_b _ _ _ _ _ _ _ _ _ _ _ z2 LK _ (by first | exact hR | exact hR.drew) HI.out HM (by omega) (by omega) HAB.out hlv.out).mono ?_); rintro e' wN ⟨rfl, hb⟩; replace hM := MapW.likeB hM hb; replace hR := RefW.likeB hR hb; (try have hb := undrew1 hb); replace ho := own_below ho hb; replace hbz := Nat.le_trans hbz hb.size; replace HBr := btr HBr (Nat.le_trans hBw HBr.size) hb; replace XB := XB.below hb XB.lt; (try clear x0 x1 x2 x3); obtain ⟨x0, x1, x2, x3⟩ := cells4 XB; replace Q1 := Q1.below hb Q1.lt; (try clear p10 p11); obtain ⟨p10, p11⟩ := cells2 Q1; replace Q2 := Q2.below hb Q2.lt; (try clear p20 p21); obtain ⟨p20, p21⟩ := cells2 Q2; clear hb))
              | (go_at_call 22; ((with_reducible refine (rpages_b _ _ _ _ _ _ _ _ _ _ _ PS k _ (by first | exact hR | exact hR.drew) HI.out (by omega) (by omega) hps.out HK.out).mono ?_); rintro e' wN ⟨A5, c5, rfl, hS5, hb⟩; replace hM := MapW.likeB hM hb; replace hR := RefW.likeB hR hb; (try have hb := undrew1 hb); replace ho := own_below ho hb; replace hbz := Nat.le_trans hbz hb.size; replace HBr := btr HBr (Nat.le_trans hBw HBr.size) hb; replace XB := XB.below hb XB.lt; (try clear x0 x1 x2 x3); obtain ⟨x0, x1, x2, x3⟩ := cells4 XB; replace Q1 := Q1.below hb Q1.lt; (try clear p10 p11); obtain ⟨p10, p11⟩ := cells2 Q1; replace Q2 := Q2.below hb Q2.lt; (try clear p20 p21); obtain ⟨p20, p21⟩ := cells2 Q2; clear hb))
              | (go_at_call 21; ((with_reducible refine (sameI_b true PS PS k k HK.out HK.out (by simp) _ _ _ _ _ (by first | exact Sl.of_own ho | exact (Sl.of_own ho).drewS) (by first | exact hS5 | exact hS5.drewS) (by omega) (by omega)).mono ?_); rintro e' wN ⟨rfl, hb⟩; replace hM := MapW.likeB hM hb; replace hR := RefW.likeB hR hb; (try have hb := undrew1 hb); replace ho := own_below ho hb; replace hbz := Nat.le_trans hbz hb.size; replace HBr := btr HBr (Nat.le_trans hBw HBr.size) hb; replace XB := XB.below hb XB.lt; (try clear x0 x1 x2 x3); obtain ⟨x0, x1, x2, x3⟩ := cells4 XB; replace Q1 := Q1.below hb Q1.lt; (try clear p10 p11); obtain ⟨p10, p11⟩ := cells2 Q1; replace Q2 := Q2.below hb Q2.lt; (try clear p20 p21); obtain ⟨p20, p21⟩ := cells2 Q2; clear hb hS5)))
        go_wp2_with fail
        refine hK.out _ _ ?_ (fun hNew => ?_)
        · (first | exact ⟨p10, p11, p20, p21, x2⟩ | assumption)
        clear hK K hHeld
        have hHeld := hNew
        clear hNew
        try simp only [Act.put, List.setIfInBounds_toArray, List.set_cons_zero, List.set_cons_succ]
        refine wpAnyH_take (i := 40) (oi := { dst := some 153, op := Op.unOp UnOp.not 4 (Operand.tmp 152), type := 4, pos := "law.go:73", after := #[{ on := 39, ground := Ground.data }, { on := 35, ground := Ground.guard }], guard := some (35, false) }) (v := ?_) rfl (by kernel_rfl) (by kernel_rfl) (by kernel_rfl) (fun _ _ _ h => h) (Or.inl ⟨by rfl, ?_⟩) (by assumption) ?_
        rotate_left
        · (intro wS hSw; (try dsimp only at hSw); go_simp; (try with_reducible rfl))
        try simp only [Act.put, List.setIfInBounds_toArray, List.set_cons_zero, List.set_cons_succ]
        refine wpAnyH_take (i := 41) (oi := { dst := some 154, op := Op.pick (Operand.tmp 148) (Operand.const (Value.bool true)) (Operand.tmp 153), type := 4, pos := "law.go:73", after := #[{ on := 35, ground := Ground.data }, { on := 40, ground := Ground.data }], guard := none }) (v := ?_) rfl (by kernel_rfl) (by kernel_rfl) (by kernel_rfl) (fun _ _ _ h => h) (Or.inl ⟨by rfl, ?_⟩) (by assumption) ?_
        rotate_left
        · (intro wS hSw; (try dsimp only at hSw); go_simp; (try with_reducible rfl))
        try simp only [Act.put, List.setIfInBounds_toArray, List.set_cons_zero, List.set_cons_succ]
        refine wpAnyH_done (by kernel_rfl) ?_ _
        refine NoPanic.normal ?_
        go_wp2_with (go_at_call 23; ((with_reducible refine (overI_any _ k c3 _ _ _ (by first | exact ho | exact own_drew ho) (by first | exact hbz | exact Nat.le_trans hbz (Nat.le_refl _)) (by omega)).mono ?_); rintro e' wN ⟨⟨v9, rfl⟩, hb⟩; replace hM := hM.keep (hb.block _ (by omega)) (hb.block _ (by omega)) (hb.block _ (by omega)); replace hR := hR.keep (hb.block _ (by omega)) (hb.block _ (by omega)); replace HBr := HBr.trans (hb.mono (by omega))))
        go_roundw
        case rel => exact ⟨j + 1, A2, W2, by omega, by go_num, hM, hR, HBr⟩
        case measure => simp [intOf]; omega
    · have hjn : j = n := by omega
      subst hjn
      clear hlt hj
      have HI := Lib.hid hM.inv
      obtain ⟨PS, hPS⟩ : ∃ PS, pagesF A L = PS := ⟨_, rfl⟩
      obtain ⟨k, hk⟩ : ∃ k, PS.length = k := ⟨_, rfl⟩
      have hkL : k ≤ L := by rw [← hk, ← hPS]; exact pagesF_le A L
      have hps := Lib.hid hPS
      have HK := Lib.hid hk
      clear hPS hk
      go_wp2_with (first
        | (go_at_call 9; ((with_reducible refine (copy_any _ _ _ _ _ _ _ _ _ _ _ _ _ hM (by omega) (by omega) (by omega) (by omega)).mono ?_); rintro e' wN ⟨⟨m4, g4, g5, rfl, hM4, q4, q5, q6⟩, hb⟩; replace hM := hM.below hb; replace hR := hR.below hb; replace HBr := btr HBr (Nat.le_trans hBw HBr.size) hb))
        | (go_at_call 18; ((with_reducible refine (pages_b _ _ _ _ _ _ _ _ _ _ _ _ PS k _ hM4 (by omega) hps.out HK.out).mono ?_); rintro e' wN ⟨A9, c9, rfl, hS1, hb⟩; replace hM4 := hM4.below hb; replace hM := hM.below hb; replace hR := hR.below hb; replace HBr := btr HBr (Nat.le_trans hBw HBr.size) hb))
        | (go_at_call 18; ((with_reducible refine (pages_b _ _ _ _ _ _ _ _ _ _ _ _ PS k _ hM (by omega) hps.out HK.out).mono ?_); rintro e' wN ⟨A9, c9, rfl, hS1, hb⟩; replace hM := hM.below hb; replace hR := hR.below hb; replace HBr := btr HBr (Nat.le_trans hBw HBr.size) hb))
        | (go_at_call 22; ((with_reducible refine (rpages_b _ _ _ _ _ _ _ _ _ _ _ PS k _ hR HI.out (by omega) (by omega) hps.out HK.out).mono ?_); rintro e' wN ⟨A5, c5, rfl, hS5, hb⟩; replace hS1 := hS1.next hb; replace hM := hM.below hb; replace hR := hR.below hb; replace HBr := btr HBr (Nat.le_trans hBw HBr.size) hb))
        | (go_at_call 21; ((with_reducible refine (sameI_b true PS PS k k HK.out HK.out (by simp) _ _ _ _ _ hS1 hS5 (by omega) (by omega)).mono ?_); rintro e' wN ⟨rfl, hb⟩; replace hM := hM.below hb; replace hR := hR.below hb; replace HBr := btr HBr (Nat.le_trans hBw HBr.size) hb))
        | (go_at_call 6; ((with_reducible refine (awake_any _).mono ?_); rintro e' wN ⟨rfl, hb⟩; replace HBr := btr HBr (Nat.le_trans hBw HBr.size) hb)))
      go_ret
      exact ⟨rfl, HB0.trans (HBr.mono (by omega))⟩
end Go.Proofs.Ytfefjjebjjfkdaa
