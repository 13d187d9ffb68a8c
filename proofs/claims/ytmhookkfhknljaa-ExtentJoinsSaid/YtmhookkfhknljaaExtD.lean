/- Cut: a row of parts, each a row of its own. -/
import Derived.Test.YtmhookkfhknljaaExtC
namespace Go.Proofs.Ytmhookkfhknljaa
open Go.ChangeShapes Go.WideShapes Go.ChangeAt Go.RowKit
set_option linter.unusedSimpArgs false
set_option linter.unusedVariables false
set_option maxRecDepth 100000 in
set_option maxHeartbeats 4000000 in
theorem cut_any (a b c d e : Int) (bs : List Nat) (L n m : Nat) (A : Option Addr) (k : Nat) (w : World) (hm : Hid (mayB a b c d e = true)) (hl : bs.length = L) (hL : L ≤ 2000) (hkL : L ≤ k) (hk2 : k ≤ maxLen) (hn : (n : Int) = c) (hmm : partsI (L : Int) c = (m : Int)) (hA : A = none → L = 0 ∧ k = 0) (h1 : Sl w w.heap.size A (bs.map byteV)) :
    Calls Try.prog 8 #[.agg #[.int .i64 a, .int .i64 b, .int .i64 c, .int .i64 d, .int .i64 e], .slice A L k] w fun e' w' => ∃ (A' : Option Addr) (c' : Nat) (vals : List Value), e' = .returned (.slice A' m c') ∧ m ≤ c' ∧ c' ≤ maxLen ∧ Sl w' w'.heap.size A' vals ∧ PartsR w' n vals (cutB n bs m) ∧ Below w.heap.size w w' := by
  have hbd := may_bd hm.out
  have c1 : 24 ≤ c := hbd.2.2.2.2.1
  have c2 : c ≤ 64 := hbd.2.2.2.2.2.1
  clear hbd
  have hmb := parts_bd (s := (L : Int)) (e := c) (by omega) (by omega)
  have hmp := parts_pos (L : Int) c
  rw [hmm] at hmb hmp
  -- each part begins within the bytes
  have hin : ∀ i, i < m → i * n ≤ L := fun i hi => by
    have h2 : ((i : Int)) * c ≤ L := by
      unfold partsI at hmm
      by_cases h0 : (i : Int) ≤ 0
      · have : (i : Int) = 0 := by omega
        rw [this]
        omega
      · have h3 : (i : Int) + 1 ≤ ((L : Int) + c - 1) / c := by omega
        have h4 := (Int.le_ediv_iff_mul_le (by omega)).1 h3
        rw [Int.add_mul] at h4
        omega
    rw [← hn] at h2
    exact_mod_cast h2
  have HM := Lib.hid hmm
  have HL := Lib.hid hl
  have HIN := Lib.hid hin
  have HK2 := Lib.hid hk2
  subst hn
  have n1 : 24 ≤ n := by omega
  have n2 : n ≤ 64 := by omega
  have m1 : m ≤ 2001 := by omega
  have L0 : (0 : Int) ≤ (L : Int) := by omega
  have L1 : (L : Int) ≤ 1048576 := by omega
  clear hin hmm hl hmb hk2
  have HB0 : Below w.heap.size w (w.alloc (.cells #[.int .i64 a, .int .i64 b, .int .i64 (n : Nat), .int .i64 d, .int .i64 e] 23)) := (Below.refl _ _).alloc (Nat.le_refl _) _
  have G1 : Blk (w.alloc (.cells #[.int .i64 a, .int .i64 b, .int .i64 (n : Nat), .int .i64 d, .int .i64 e] 23)) w.heap.size 23 #[.int .i64 a, .int .i64 b, .int .i64 (n : Nat), .int .i64 d, .int .i64 e] := Blk.new_ _ _ _
  have H1 := h1.next HB0
  clear h1
  go_enter Try.func8, Try.ntmps8
  go_wp2_with (go_at_call 10; ((with_reducible refine (pages_any _ _ _ _ _ _ (m : Int) _ hm (by omega) (by omega) HM.out).mono ?_); rintro e' wN ⟨rfl, hb⟩; have H1 := H1.next hb; have HB0 := btr HB0 HB0.size hb; have G1 := G1.below hb G1.lt; (try clear y0 y1 y2 y3 y4); have y0 := G1.cell_ 0; have y1 := G1.cell_ 1; have y2 := G1.cell_ 2; have y3 := G1.cell_ 3; have y4 := G1.cell_ 4; simp at y0 y1 y2 y3 y4; clear hb))
  obtain ⟨w0, hw0⟩ : ∃ W : World, W = wN := ⟨_, rfl⟩
  rw [← hw0] at HB0 G1 H1 y0 y1 y2 y3 y4 ⊢
  clear hw0
  have hb0 : w.heap.size < w0.heap.size := G1.lt
  go_loopw [5, 12] (fun s i wr => ∃ (j : Nat) (v : Value) (vals : List Value), j ≤ m ∧ i = .int .i64 j ∧ s = v ∧ wr.ownsRow w0.heap.size 24 1 v j vals ∧ Parts wr w0.heap.size v.ownBlock n vals (cutB n bs j) ∧ Below w0.heap.size w0 wr) (fun _ i _ => m - (intOf i).toNat)
  case atStart => exact ⟨0, _, [], Nat.zero_le _, rfl, rfl, World.ownsRow_nil _ _ _ _, Parts.nil_, Below.refl _ _⟩
  case round =>
    obtain ⟨j, v, vals, hj, rfl, hsv, ho, hp, hB⟩ := hrel
    have hsv2 := hsv.symm
    subst hsv2
    clear y0 y1 y2 y3 y4
    have Gr := G1.below hB hb0
    have Hr := H1.next hB
    have y2 := Gr.cell_ 2
    simp at y2
    by_cases hlt : j < m
    · obtain ⟨q, hq⟩ : ∃ q, j * n = q := ⟨_, rfl⟩
      have hqL : q ≤ L := by rw [← hq]; exact HIN.out j hlt
      have hqi : (j : Int) * (n : Int) = (q : Int) := by rw [← hq]; push_cast; rfl
      have HQ := Lib.hid hq
      have q0 : (0 : Int) ≤ (q : Int) := by omega
      have q1 : (q : Int) ≤ (L : Int) := by omega
      have q2 : (L : Int) ≤ (k : Int) := by omega
      have i1 : (j : Int) < (m : Int) := by omega
      have n0 : (0 : Int) ≤ (n : Int) := by omega
      have n3 : (n : Int) ≤ 64 := by omega
      clear hq
      obtain ⟨wb, rfl⟩ : ∃ W : World, W = wr := ⟨_, rfl⟩
      obtain ⟨X, hX⟩ : ∃ X, (bs.drop q).take n = X := ⟨_, rfl⟩
      have hXl : X.length = min (L - q) n := by rw [← hX, List.length_take, List.length_drop, HL.out, Nat.min_comm]
      have HXL := Lib.hid hXl
      have HX := Lib.hid hX
      clear hX hXl
      go_upto_region 6 with (at_make; obtain ⟨ti0, hi, hz0, hz1, hz2⟩ := info_parts infoByte; refine wpList_make_full _ rfl _ _ 24 rfl wb.heap.size 5 ti0 (.int .u8 0) 1 Try.underlying24 hi hz0 hz1 _ _ _ _ n rfl rfl rfl rfl (by rw [hz2]; omega) (by unfold maxLen; omega) (Nat.le_refl _) ?_; intro w1 hown1 hgrow1; clear hi hz0 hz1 hz2)
      have hcur := own_cur hown1
      rw [show (madeCells (Value.int .u8 0).cells (n * 1)).toList = List.replicate (n * 1) (Value.int .u8 0) from toList_madeCells_one _ _, Nat.mul_one] at hcur
      have hB1 : Below wb.heap.size wb w1 := (Below.refl _ _).grown hgrow1 (Nat.le_refl _) (fun j hj => by cases hj)
      have HCUR := Lib.hid hcur
      have Hr1 := Hr.next hB1
      have Gr1 := Gr.below hB1 (Nat.lt_of_lt_of_le hb0 hB.size)
      clear y2 hown1 hgrow1 hcur
      have y2 := Gr1.cell_ 2
      simp at y2
      have hcp : ∀ sp sc, (Builtin.copy_ #[24, 24] 3 #[.slice (some ⟨wb.heap.size, 0, none⟩) n n, .slice sp 0 sc]).run Try.prog w1 = .ok (.int .i64 0) w1 := fun sp sc => by
        have := run_copy_none (P := Try.prog) w1 24 24 3 5 (some ⟨wb.heap.size, 0, none⟩) sp n n 0 sc Try.underlying24 infoSz (by simp)
        simpa [goInt] using this
      go_cut [7] (fun s7 wx => s7 = .slice (some ⟨wb.heap.size, 0, none⟩) n n ∧ Below wb.heap.size wb wx ∧ wx.heap[wb.heap.size]? = some (.cells ((padN n X).map byteV).toArray 5 (0, 0)))
      case first =>
        by_cases hL0 : L = 0
        · have hq0 : q = 0 := by omega
          subst hq0
          subst hL0
          have hX0 : X = [] := List.eq_nil_of_length_eq_zero (by have := HXL.out; omega)
          subst hX0
          cases A with
          | none =>
            obtain ⟨_, hk0⟩ := hA rfl
            subst hk0
            clear hA
            go_wp2_with fail
            go_meet
            exact ⟨rfl, hB1, by have := HCUR.out; simpa [padN, byteV] using this⟩
          | some ad =>
            clear hA
            by_cases hk0 : k = 0
            · subst hk0
              go_wp2_with fail
              go_meet
              exact ⟨rfl, hB1, by have := HCUR.out; simpa [padN, byteV] using this⟩
            · go_wp2_with fail
              go_meet
              exact ⟨rfl, hB1, by have := HCUR.out; simpa [padN, byteV] using this⟩
        · obtain ⟨b1, o1, rfl, l1, qq⟩ := Hr1.at_ (by rw [List.length_map, HL.out]; omega)
          have hS := (sl_sub Hr1 q n).cells_ _ rfl
          rw [← List.map_drop, ← List.map_take, HX.out] at hS
          have HS := Lib.hid hS
          clear hA qq hS
          by_cases hkq : k = q
          · subst hkq
            have hX0 : X = [] := List.eq_nil_of_length_eq_zero (by have := HXL.out; omega)
            subst hX0
            go_wp2_with fail
            go_meet
            exact ⟨rfl, hB1, by have := HCUR.out; simpa [padN, byteV] using this⟩
          · have hrun := run_copy_row (P := Try.prog) w1 24 24 3 5 wb.heap.size 0 n n ⟨b1, o1 + q, none⟩ (L - q) (k - q) (List.replicate n (Value.int .u8 0)).toArray 5 (X.map byteV) Try.underlying24 infoSz HCUR.out (by rw [List.length_map, HXL.out]) HS.out (by rw [List.length_map, HXL.out]; simp <;> omega) (oneB X)
            obtain ⟨w2, hw2⟩ : ∃ W : World, W = w1.setRow wb.heap.size (List.take 0 (List.replicate n (Value.int .u8 0)).toArray.toList ++ X.map byteV ++ List.drop (0 + (X.map byteV).length) (List.replicate n (Value.int .u8 0)).toArray.toList).toArray := ⟨_, rfl⟩
            rw [← hw2] at hrun
            have hb2 : Below wb.heap.size wb w2 := by rw [hw2]; exact below_setRow hB1 (Nat.le_refl _) _
            have hg2 : w2.heap[wb.heap.size]? = some (.cells ((padN n X).map byteV).toArray 5 (0, 0)) := by
              rw [hw2, setRow_heap w1 wb.heap.size _ _ 5 _ HCUR.out, ← splice_pad n X (by have := HXL.out; omega)]
              simp [splice]
            have HG2 := Lib.hid hg2
            clear hg2 hw2
            go_wp2_with fail
            go_meet
            exact ⟨rfl, hb2, HG2.out⟩
      case rest =>
      obtain ⟨rfl, hb2, hg2⟩ := hcut
      have HG2 := Lib.hid hg2
      have ho2 := own_below ho hb2
      have hp2 := hp.below hb2
      have hpart : padN n X = partB n bs j := by rw [← HX.out, ← HQ.out]; rfl
      have HPART := Lib.hid hpart
      have hne : ∀ g', v.ownBlock = some g' → w0.heap.size ≤ g' ∧ g' < wb.heap.size := fun g' hg' => ho.lt g' hg'
      clear hg2 hpart Hr1 Gr1 y2 HCUR hB1 hp
      go_wp2_with (at_builtin; obtain ⟨ti0, hi, hz0, hz1, hz2⟩ := info_parts infoSl; refine wpList_app _ rfl (.tmp 26) (.tmp 28) _ rfl w0.heap.size 24 ti0 _ 1 24 Try.underlying27 hi hz0 hz1 hz2 rfl (by decide) _ j vals rfl (ho2.alloc _) _ 1 _ [.slice (some ⟨wb.heap.size, 0, none⟩) n n] rfl (Rd.one (by simp)) (by simp [Value.oneCell']) (by unfold maxLen; omega) (by omega) (by simp; have := hB.size; have := hb2.size; omega) ?_; intro v' w' ho' hg' hv'; clear hi hz0 hz1 hz2)
      go_roundw
      case rel =>
        have hsz := hb2.size
        refine ⟨j + 1, v', vals ++ [.slice (some ⟨wb.heap.size, 0, none⟩) n n], by omega, by go_num, rfl, ho', ?_, ?_⟩
        · have hc2 : cutB n bs (j + 1) = cutB n bs j ++ [partB n bs j] := by simp [cutB, List.range_succ]
          rw [hc2]
          refine (hp2.below ((Below.refl _ _).alloc (Nat.le_refl _) _)).snoc hg' hv' ?_ ?_ ?_ ?_ (part_len' n bs j)
          · exact hB.size
          · have := (show Blk wc wb.heap.size _ _ from HG2.out).lt
            simp
            omega
          · intro he
            have := (hne _ he.symm).2
            omega
          · intro jj u hu
            have hblk := (show Blk wc wb.heap.size _ _ from HG2.out).alloc_ (.cells #[.slice (some ⟨wb.heap.size, 0, none⟩) n n] 24)
            rw [hblk.cell_, HPART.out]
            simpa using hu
        · exact (((hB.trans (hb2.mono hB.size)).alloc (by have := hB.size; omega) _).grown hg' (by simp; have := hB.size; omega) (fun g' hg'' => (hne g' hg'').1))
      case measure => simp [intOf]; omega
    · have hjm : j = m := by omega
      subst hjm
      obtain ⟨A', c', rfl, hvl, hc1, hc2, hsl⟩ := own_sliceV ho
      have HVL := Lib.hid hvl
      have hpr := hp.read
      have HC2 := Lib.hid hc2
      clear hlt hvl hc2
      go_wp2
      go_ret
      exact ⟨A', c', vals, rfl, hc1, HC2.out, hsl, hpr, HB0.trans (hB.mono (by omega))⟩
end Go.Proofs.Ytmhookkfhknljaa
