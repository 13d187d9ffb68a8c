/- TagTorn: the walk. -/
import Derived.Test.YtjmochkhdapmiaaTagLengths
namespace Go.Proofs.Ytjmochkhdapmiaa
open Go.ChangeShapes Go.WideShapes Go.ChangeAt Go.RowKit
attribute [local go_sem ↓] Go.wp_at_zero Go.wp_at_succ
set_option linter.unusedSimpArgs false
set_option linter.unusedVariables false

def tornB (R : List Nat) (p k : Nat) : List Nat := R.take p ++ List.replicate (k - p) 255
theorem torn_st {R : List Nat} {n p : Nat} (hl : R.length = n + 16) (hp : p < n + 16) : readSt (tornB R p (n + 16)) ≠ 1 := by
  have hlen : (tornB R p (n + 16)).length = n + 16 := by simp [tornB]; omega
  refine st_not1 hlen ?_
  unfold soundB
  have : (tornB R p (n + 16)).getD (n + 15) 0 = 255 := by
    unfold tornB
    rw [List.getD_eq_getElem?_getD, List.getElem?_append_right (by simp; omega), List.getElem?_replicate, if_pos (by simp; omega)]
    rfl
  rw [this]
  simp
theorem equal_st {n f : Nat} (h1 : 24 ≤ n) (h2 : n ≤ 64) : readSt (List.replicate (n + 16) f) = if f = 255 then 0 else 2 := by
  have hl : (List.replicate (n + 16) f).length = n + 16 := by simp
  by_cases hf : f = 255
  · rw [if_pos hf]
    unfold readSt
    rw [if_pos (by rw [hl]; omega), if_pos]
    unfold blankB
    rw [List.all_eq_true]
    intro b hb
    rw [List.eq_of_mem_replicate hb, hf]
    rfl
  · rw [if_neg hf]
    refine st_unsound hl ?_ ?_
    · unfold soundB
      have e1 : (List.replicate (n + 16) f).getD n 0 = f := by rw [getD_eq (by rw [hl]; omega)]; simp
      have e2 : (List.replicate (n + 16) f).getD (n + 15) 0 = f := by rw [getD_eq (by rw [hl]; omega)]; simp
      rw [e1, e2]
      by_cases h7 : f = 74
      · subst h7; rfl
      · rw [show (f == 74) = false by simpa using h7]; rfl
    · refine not_blank (i := 0) (by rw [hl]; omega) ?_
      rw [getD_eq (by rw [hl]; omega)]
      simpa using hf
/-- Are the bytes from p on, j of them, all 255? -/
def sameB' (R : List Nat) (p j : Nat) : Bool := ((R.drop p).take j).all fun b => b == 255
theorem same_next {R : List Nat} {p j : Nat} (h : p + j < R.length) : sameB' R p (j + 1) = (sameB' R p j && R[p + j] == 255) := by
  unfold sameB'
  rw [all_take (by simp; omega)]
  simp
theorem same_end {R : List Nat} {n p : Nat} (hl : R.length = n + 16) (hz : R.getD (n + 15) 0 = 0) (hp : p < n + 16) : sameB' R p (n + 16 - p) = false := by
  unfold sameB'
  rw [List.all_eq_false]
  refine ⟨0, ?_, by decide⟩
  rw [List.take_of_length_le (by simp; omega)]
  rw [getD_eq (by omega)] at hz
  rw [← hz]
  exact List.mem_drop_iff_getElem.2 ⟨n + 15 - p, by omega, by simp [show p + (n + 15 - p) = n + 15 by omega]⟩
theorem tornB_step {R : List Nat} {p k : Nat} (h : p ≤ k) : tornB R p (k + 1) = tornB R p k ++ [255] := by
  unfold tornB
  rw [show k + 1 - p = (k - p) + 1 by omega, List.replicate_succ', List.append_assoc]
theorem tornB_keep {R : List Nat} {p k : Nat} (h : k < p) : tornB R p (k + 1) = tornB R p k := by
  unfold tornB
  rw [show k + 1 - p = 0 by omega, show k - p = 0 by omega]

theorem own_kept2 {w w' : World} {base : Nat} {e : TypeId} {n : Nat} {v u : Value} {xs : List Value} (h : w.ownsRow base e 1 v n xs) (hg : w.grownBy w' u.ownBlock) (hd : ∀ g, v.ownBlock = some g → u.ownBlock ≠ some g) : w'.ownsRow base e 1 v n xs := by
  refine h.kept hg ?_
  cases hv : v.ownBlock with
  | none => exact Or.inl rfl
  | some g => exact Or.inr (fun he => hd g hv he.symm)
theorem apart_new {w : World} {base : Nat} {e : TypeId} {n : Nat} {v u u' : Value} {xs : List Value} (h : w.ownsRow base e 1 v n xs) (hd : ∀ g, v.ownBlock = some g → u.ownBlock ≠ some g) (hu : u'.ownBlock = u.ownBlock ∨ u'.ownBlock = some w.heap.size) : ∀ g, v.ownBlock = some g → u'.ownBlock ≠ some g := by
  intro g hg he
  rcases hu with hu | hu
  · rw [hu] at he
    exact hd g hg he
  · rw [hu] at he
    have := (h.lt g hg).2
    cases he
    omega
theorem apart_sym {v u : Value} (h : ∀ g, v.ownBlock = some g → u.ownBlock ≠ some g) : ∀ g, u.ownBlock = some g → v.ownBlock ≠ some g := fun g hu hv => h g hv hu

set_option maxRecDepth 100000 in
set_option maxHeartbeats 8000000 in
theorem torn_walk (A1 : Option Addr) (n1 c1 : Nat) (a : List Nat) (tk tp ts te at_ : Int) (f : Nat) (w : World)
    (r1 : SlA w A1 n1 c1 (a.map byteV)) (h81 : Bytes8 a) (_ : i64in tk ∧ i64in tp ∧ i64in ts ∧ i64in te) (_ : i64in at_) (hf : f < 2 ^ IntKind.u8.bits) :
    Calls Try.prog 5 #[.slice A1 n1 c1, .agg #[.int .i64 tk, .int .i64 tp, .int .i64 ts, .int .i64 te], .int .i64 at_, .int .u8 f] w fun e' w' => e' = .returned (.bool true) ∧ Below w.heap.size w w' := by
  obtain ⟨e1, h1, _⟩ := r1
  rw [List.length_map] at e1
  subst e1
  have hf8 : f < 256 := hf
  clear hf
  have HB0 : Below w.heap.size w (w.alloc (.cells #[.int .i64 tk, .int .i64 tp, .int .i64 ts, .int .i64 te] 24)) := (Below.refl _ _).alloc (Nat.le_refl _) _
  by_cases hx : 100 < a.length
  · have g1 : (100 : Int) < (a.length : Int) := by omega
    go_enter Try.func5, Try.ntmps5
    go_wp2_with (go_at_call 9; refine (awake_any _).mono ?_; rintro e' w2 ⟨rfl, hb2⟩)
    go_ret
    exact ⟨rfl, btr HB0 HB0.size hb2⟩
  have g1 : ¬ (100 : Int) < (a.length : Int) := by omega
  have m1 : a.length ≤ 1000000 := by omega
  have H1 := h1.next HB0
  have G1 : Blk (w.alloc (.cells #[.int .i64 tk, .int .i64 tp, .int .i64 ts, .int .i64 te] 24)) w.heap.size 24 #[.int .i64 tk, .int .i64 tp, .int .i64 ts, .int .i64 te] := Blk.new_ _ _ _
  rcases lay_cases a h81 tk tp ts te with hn1 | ⟨K, P, S, E, rfl, rfl, rfl, rfl, ok1⟩
  · have HN := Lib.hid hn1
    clear hn1
    go_enter Try.func5, Try.ntmps5
    go_wp2_with (first
      | (go_at_call 11; refine (lay_no a A1 c1 tk tp ts te _ HN.out (by omega)).mono ?_; rintro e' wL ⟨rfl, hb⟩; have HB0 := btr HB0 HB0.size hb; have H1 := H1.next hb; have G1 := G1.below hb G1.lt; (try clear y0 y1 y2 y3); have y0 := G1.cell_ 0; have y1 := G1.cell_ 1; have y2 := G1.cell_ 2; have y3 := G1.cell_ 3; simp at y0 y1 y2 y3; clear hb)
      | (go_at_call 9; refine (awake_any _).mono ?_; rintro e' w2 ⟨rfl, hb2⟩))
    go_ret
    exact ⟨rfl, btr HB0 HB0.size hb2⟩
  · have OK1 := Lib.hid ok1
    obtain ⟨N, hN⟩ : ∃ N, a.length + 16 = N := ⟨_, rfl⟩
    have hr := rawB_len a K P S E
    have hlast := raw_last a K P S E
    have h8r : Bytes8 (rawB a K P S E) := rawB_8 ok1.2.2.2.2.2.2.2.2 (by have := ok1.2.2.2.1; omega)
    have hal : 24 ≤ a.length := ok1.1
    have hal2 : a.length ≤ 64 := ok1.2.1
    have bb := lowI_bd at_ (N : Int) (by omega)
    obtain ⟨p, hq⟩ : ∃ q : Nat, lowI at_ (N : Int) = (q : Int) := ⟨(lowI at_ (N : Int)).toNat, by omega⟩
    rw [hq] at bb
    have HQ := Lib.hid hq
    have hpN : p < N := by omega
    have htorn := torn_st (R := rawB a K P S E) (n := a.length) (p := p) hr (by omega)
    have heq := equal_st (n := a.length) (f := f) hal hal2
    have hsame := same_end (R := rawB a K P S E) (n := a.length) (p := p) hr hlast (by omega)
    rw [hN] at hr htorn heq hsame
    obtain ⟨R, hR⟩ : ∃ R, rawB a K P S E = R := ⟨_, rfl⟩
    rw [hR] at hr h8r htorn hsame
    obtain ⟨s1, hs1⟩ : ∃ x, readSt (tornB R p N) = x := ⟨_, rfl⟩
    rw [hs1] at htorn
    have HR := Lib.hid hR
    have HN := Lib.hid hN
    have HRL := Lib.hid hr
    have HS1 := Lib.hid hs1
    have HT := Lib.hid htorn
    have HE := Lib.hid heq
    have HSM := Lib.hid hsame
    have h8t : Bytes8 (tornB R p N) := fun b hb => by
      unfold tornB at hb
      rcases List.mem_append.1 hb with h | h
      · exact h8r b (List.mem_of_mem_take h)
      · rw [List.eq_of_mem_replicate h]; omega
    have h8e : Bytes8 (List.replicate N f) := fun b hb => by rw [List.eq_of_mem_replicate hb]; exact hf8
    have htl : (tornB R p N).length = N := by simp [tornB]; omega
    have HTL := Lib.hid htl
    have HEL : Hid ((List.replicate N f).length = N) := Lib.hid (by simp)
    have b1 : ((s1 : Int) != 1) = true := by simp; omega
    have hN2 : N ≤ 80 := by omega
    have hN40 : 40 ≤ N := by omega
    have zN : ((N : Int) == 0) = false := by simp; omega
    obtain ⟨i0, hi, hz0, hz1, hz2⟩ := info_parts infoByte
    have j0 : (0 : Int) ≤ (p : Int) := by omega
    have j1 : (p : Int) < (N : Int) := by omega
    clear ok1 hR hN hr hs1 htorn heq hsame htl hq hlast hal hal2
    go_enter Try.func5, Try.ntmps5
    go_wp2_with (first
      | (go_at_call 11; refine (lay_yes' a _ rfl A1 c1 K P S E _ H1 OK1.out).mono ?_; rintro e' wL ⟨sv, rfl, ho, hb⟩; have HB0 := btr HB0 HB0.size hb; have H1 := H1.next hb; have G1 := G1.below hb G1.lt; (try clear y0 y1 y2 y3); have y0 := G1.cell_ 0; have y1 := G1.cell_ 1; have y2 := G1.cell_ 2; have y3 := G1.cell_ 3; simp at y0 y1 y2 y3; rw [HR.out] at ho; replace ho := own_len HN.out ho; obtain ⟨A5, c5, rfl, hl5, hc5, hc6, hA5, O5⟩ := own_slice ho; have HC6 := Lib.hid hc6; have j2 : (p : Int) ≤ (c5 : Int) := (by omega); clear hl5 hc6 hA5 ho hb)
      | (go_at_call 21; refine (low_any at_ (N : Int) _ (by omega) (by omega)).mono ?_; rw [HQ.out]; rintro e' w' ⟨rfl, rfl⟩)
      | (at_builtin; refine wpList_app _ rfl (.const (.slice none 0 0)) (.tmp 50) _ rfl wL.heap.size 5 i0 _ 1 1 Try.underlying22 hi hz0 hz1 hz2 rfl (by decide) (.slice none 0 0) 0 [] rfl (World.ownsRow_nil _ _ _ _) _ p _ ((R.take p).map byteV) rfl (Rd.of_sl (show Sl wL wL.heap.size A5 ((R.take p).map byteV) by rw [List.map_take]; exact sl_take O5 p) (by simp; have := HRL.out; omega)) (oneB _) (by unfold maxLen; omega) (by omega) (Nat.le_refl _) ?_; intro v8 w8 ho8 hg8 hv8)
      | (at_make; refine wpList_make_own _ rfl _ _ 22 rfl wL.heap.size 5 i0 _ 1 Try.underlying22 hi hz0 hz1 .i64 .i64 _ N rfl rfl rfl (by rw [hz2]; omega) (by unfold maxLen; omega) (by have := hg8.size; omega) ?_; intro w9 ho9 hg9))
    have hBL : Below wL.heap.size wL w9 := (below_app (B := wL.heap.size) (Nat.le_refl _) (Nat.le_refl _) (World.ownsRow_nil wL wL.heap.size 5 1) hg8).grown hg9 (by have := hg8.size; omega) (fun k h => by cases h)
    have hT0 : w9.ownsRow wL.heap.size 5 1 v8 (p + (0 - p)) ((tornB R p 0).map byteV) := own_len (n := 0 + p) (by omega) (by
      have := ho8.kept hg9 (by cases v8.ownBlock <;> simp)
      simpa [tornB] using this)
    have hD0 : ∀ g, v8.ownBlock = some g → (Value.slice (some ⟨w8.heap.size, 0, none⟩) 0 N).ownBlock ≠ some g := fun g hg he => by
      have := (ho8.lt g hg).2
      have he' : w8.heap.size = g := by simpa [Value.ownBlock] using he
      omega
    clear ho8 hg8 hv8 hg9
    go_loopw [11, 12, 13] (fun v u i wr => ∃ k : Nat, k ≤ N ∧ i = .int .i64 k ∧ wr.ownsRow wL.heap.size 5 1 v (p + (k - p)) ((tornB R p k).map byteV) ∧ wr.ownsRow wL.heap.size 5 1 u k ((List.replicate k f).map byteV) ∧ (∀ g, v.ownBlock = some g → u.ownBlock ≠ some g) ∧ Below wL.heap.size wL wr) (fun _ _ i _ => N - (intOf i).toNat)
    case atStart => exact ⟨0, Nat.zero_le _, rfl, hT0, by simpa using ho9, hD0, hBL⟩
    case round =>
      clear hT0 hD0 ho9 hBL
      obtain ⟨k, hk, rfl, hT1, hE1, hD, hBr⟩ := hrel
      have HD := Lib.hid hD
      clear hD
      by_cases hlt : k < N
      · have q1 : (k : Int) < (N : Int) := by omega
        have q0 : (0 : Int) ≤ (k : Int) := by omega
        have hsz := hBr.size
        by_cases hkp : k < p
        · have q2 : ¬ (p : Int) ≤ (k : Int) := by omega
          go_wp2_with (first
            | (at_builtin; refine wpList_app _ rfl (.tmp 67) (.tmp 69) _ rfl wL.heap.size 5 i0 _ 1 1 Try.underlying22 hi hz0 hz1 hz2 rfl (by decide) _ _ _ rfl (hE1.alloc _) _ 1 _ [byteV f] rfl (Rd.one (by simp [byteV])) (by simp [byteV, Value.oneCell']) (by unfold maxLen; omega) (by omega) (by simp; omega) ?_; intro vE wE hoE hgE hvE))
          go_roundw
          case rel => exact ⟨k + 1, by omega, by go_num, by rw [tornB_keep hkp]; exact own_len (by omega) (own_kept2 (hT1.alloc _) hgE HD.out), by rw [List.replicate_succ', List.map_append]; exact hoE, apart_new (hT1.alloc (.cells #[.int .u8 f] 5)) HD.out hvE, (hBr.alloc hsz _).trans (below_app (Nat.le_refl _) (by simp; omega) (hE1.alloc _) hgE)⟩
          case measure => simp [intOf]; omega
        · have q2 : (p : Int) ≤ (k : Int) := by omega
          go_wp2_with (first
            | (at_builtin; refine wpList_app _ rfl (.tmp 64) (.tmp 65) _ rfl wL.heap.size 5 i0 _ 1 1 Try.underlying22 hi hz0 hz1 hz2 rfl (by decide) _ _ _ rfl (hT1.alloc _) _ 1 _ [byteV 255] rfl (Rd.one (by simp [byteV])) (by simp [byteV, Value.oneCell']) (by unfold maxLen; omega) (by omega) (by simp; omega) ?_; intro vT wT hoT hgT hvT; have hE2 := own_kept2 (hE1.alloc _) hgT (apart_sym HD.out); have HD2 := Lib.hid (apart_new (hE1.alloc _) (apart_sym HD.out) hvT); have hBT : Below wL.heap.size wL wT := (hBr.alloc hsz _).trans (below_app (Nat.le_refl _) (by simp; omega) (hT1.alloc _) hgT); have hszT := hBT.size)
            | (at_builtin; refine wpList_app _ rfl (.tmp 67) (.tmp 69) _ rfl wL.heap.size 5 i0 _ 1 1 Try.underlying22 hi hz0 hz1 hz2 rfl (by decide) _ _ _ rfl (hE2.alloc _) _ 1 _ [byteV f] rfl (Rd.one (by simp [byteV])) (by simp [byteV, Value.oneCell']) (by unfold maxLen; omega) (by omega) (by simp; omega) ?_; intro vE wE hoE hgE hvE))
          go_roundw
          case rel => exact ⟨k + 1, by omega, by go_num, by rw [tornB_step (by omega)]; exact own_len (n := p + (k - p) + 1) (by omega) (by rw [List.map_append]; exact own_kept2 (hoT.alloc _) hgE (apart_sym HD2.out)), by rw [List.replicate_succ', List.map_append]; exact hoE, apart_new (hoT.alloc (.cells #[.int .u8 f] 5)) (apart_sym HD2.out) hvE, hBT.trans ((((Below.refl _ _).alloc hszT _)).trans (below_app (Nat.le_refl _) (by simp; omega) (hE2.alloc _) hgE))⟩
          case measure => simp [intOf]; omega
      · have hkN : k = N := by omega
        subst hkN
        have q1 : ¬ (k : Int) < (k : Int) := by omega
        obtain ⟨A8, c8, rfl, hl8, hc8, hc8', -, O8⟩ := own_slice (own_len (m := k) (by omega) hT1)
        obtain ⟨A9, c9, rfl, hl9, hc9, hc9', -, O9⟩ := own_slice hE1
        have O5 := O5.next hBr
        have HB0 := btr HB0 HB0.size hBr
        obtain ⟨wo, rfl⟩ : ∃ wo : World, wo = wr := ⟨_, rfl⟩
        have hlR := HRL.out
        obtain ⟨st, hst⟩ : ∃ st, (if f = 255 then 0 else 2) = st := ⟨_, rfl⟩
        have hE := HE.out
        rw [hst] at hE
        have HE' := Lib.hid hE
        have hst1 : st ≠ 1 := by rw [← hst]; split <;> omega
        have HST1 := Lib.hid hst1
        have C8 := Lib.hid hc8'
        have C9 := Lib.hid hc9'
        have hsf : (((f : Int) == 255) = true ∧ st = 0) ∨ (((f : Int) == 255) = false ∧ st = 2) := by
          by_cases h255 : f = 255
          · left
            rw [if_pos h255] at hst
            exact ⟨by simp; omega, hst.symm⟩
          · right
            rw [if_neg h255] at hst
            exact ⟨by simp; omega, hst.symm⟩
        clear hl8 hl9 hc8' hc9' hE hst hst1 hE1 hT1 HD hBr
        rcases hsf with ⟨u1, rfl⟩ | ⟨u1, rfl⟩
        all_goals
          go_wp2_with (first
            | (go_at_call 19; ((with_reducible refine (read_bad (tornB R p k) k HTL.out A8 _ _ O8 h8t hc8 C8.out (by omega) s1 HS1.out HT.out).mono ?_); rintro e' wX ⟨rfl, hb⟩; have HB0 := (btr HB0 HB0.size hb).alloc (btr HB0 HB0.size hb).size (.cells #[.int .i64 0, .int .i64 0, .int .i64 0, .int .i64 0] 24); have O6 := (O5.next hb).alloc_ (.cells #[.int .i64 0, .int .i64 0, .int .i64 0, .int .i64 0] 24); have O9' := (O9.next hb).alloc_ (.cells #[.int .i64 0, .int .i64 0, .int .i64 0, .int .i64 0] 24); have T1 : Blk (wX.alloc (.cells #[.int .i64 0, .int .i64 0, .int .i64 0, .int .i64 0] 24)) wX.heap.size 24 #[.int .i64 0, .int .i64 0, .int .i64 0, .int .i64 0] := Blk.new_ _ _ _; clear hb))
            | (go_at_call 19; ((with_reducible refine (read_bad (List.replicate k f) k HEL.out A9 _ _ O9' h8e hc9 C9.out (by omega) _ HE'.out HST1.out).mono ?_); rintro e' wY0 ⟨rfl, hb⟩; have T2 := T1.below hb T1.lt; have O7 := O6.next hb; have lt2 := T2.lt; have HB0 := (btr HB0 HB0.size hb).alloc (btr HB0 HB0.size hb).size (.cells #[.int .i64 0, .int .i64 0, .int .i64 0, .int .i64 0] 24); clear hb; have t0 := T2.cell_ 0; have t1 := T2.cell_ 1; have t2 := T2.cell_ 2; have t3 := T2.cell_ 3; simp at t0 t1 t2 t3)))
          go_loop [20, 21] (fun v i => ∃ (j : Nat) (b : Bool), p + j ≤ k ∧ i = .int .i64 (p + j : Nat) ∧ v = .bool b ∧ Hid (sameB' R p j = b)) (fun _ i => k - (intOf i).toNat)
          case atStart => exact ⟨0, true, by omega, by go_num, rfl, Lib.hid rfl⟩
          case round =>
            obtain ⟨j, b, hj, rfl, rfl, HS⟩ := hrel
            by_cases hlt2 : p + j < k
            · obtain ⟨b5, o5, hA5, l5, q5⟩ := O7.at_ (by simp; omega)
              cases hA5
              have l5' : b5 < wY0.heap.size := l5
              have hjl : p + j < R.length := by omega
              have x1 := q5 (p + j) (byteV R[p + j]) (by simp [hjl])
              have hnx := same_next hjl
              rw [HS.out] at hnx
              obtain ⟨x, hx⟩ : ∃ x, R[p + j] = x := ⟨_, rfl⟩
              rw [hx] at x1 hnx
              have x2 : wY0.cell? ⟨b5, o5 + (p + j), none⟩ = some (.int .u8 (x : Int)) := x1
              have e255 : ((x : Int) == 255) = (x == 255) := eqNat x 255
              have HNX := Lib.hid hnx
              have v1 : ((p + j : Nat) : Int) < (k : Int) := by omega
              have v0 : (0 : Int) ≤ ((p + j : Nat) : Int) := by omega
              have hQ : ∃ z : Nat, z = p + j := ⟨_, rfl⟩
              obtain ⟨z, hz⟩ := hQ
              rw [← hz] at x2 v1 v0 ⊢
              have HZ := Lib.hid hz
              clear q5 x1 hnx hx hz
              cases b
              · go_wp2
                go_round
                case rel => exact ⟨j + 1, false, by have := HZ.out; omega, by have := HZ.out; congr 1; omega, rfl, Lib.hid (by rw [HNX.out]; rfl)⟩
                case measure => simp [intOf]; omega
              · go_wp2
                go_round
                case rel => exact ⟨j + 1, x == 255, by have := HZ.out; omega, by have := HZ.out; congr 1; omega, rfl, Lib.hid (by rw [HNX.out]; rfl)⟩
                case measure => simp [intOf]; omega
            · have hjk : j = k - p := by omega
              have hb : b = false := by rw [← HS.out, hjk]; exact HSM.out
              subst hb
              have v1 : ¬ ((p + j : Nat) : Int) < (k : Int) := by omega
              go_wp2_with (go_at_call 9; refine (awake_any _).mono ?_; rintro e' w2 ⟨rfl, hb2⟩)
              go_ret
              exact ⟨rfl, btr HB0 HB0.size hb2⟩
end Go.Proofs.Ytjmochkhdapmiaa
