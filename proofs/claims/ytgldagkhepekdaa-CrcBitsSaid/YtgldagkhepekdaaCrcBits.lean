/- CrcBits: the walk. -/
import Derived.Test.YtgldagkhepekdaaCrcParts
import Derived.Test.YtgldagkhepekdaaCrcBitsM
import Derived.StillTailTactics
namespace Go.Proofs.Ytgldagkhepekdaa
open Go.ChangeShapes Go.WideShapes Go.ChangeAt Go.RowKit
attribute [local go_sem ↓] Go.wp_at_zero Go.wp_at_succ

theorem Bytes8.set_ {bs : List Nat} (h : Bytes8 bs) (i : Nat) {v : Nat} (hv : v < 256) : Bytes8 (bs.set i v) := fun b hb => by
  rcases List.mem_or_eq_of_mem_set hb with h1 | rfl
  · exact h b h1
  · exact hv
theorem pow_pos8 (s : Nat) : 2 ^ s ≠ 0 := by
  have := Nat.pow_pos (n := s) (show 0 < 2 by decide)
  omega
theorem pow_next (s : Nat) : 2 ^ s ^^^ 2 ^ (s + 1) ≠ 0 := by
  apply xor_ne
  have := Nat.pow_pos (n := s) (show 0 < 2 by decide)
  rw [Nat.pow_succ]
  omega
theorem xor_off {u v : Nat} (h : v ≠ 0) : u ≠ u ^^^ v := by
  intro he
  apply h
  have := congrArg (u ^^^ ·) he
  simpa [← Nat.xor_assoc] using this.symm
theorem getD_set_ne (bs : List Nat) (i j v : Nat) (h : i ≠ j) : (bs.set i v).getD j 0 = bs.getD j 0 := by
  rw [List.getD_eq_getElem?_getD, List.getD_eq_getElem?_getD, List.getElem?_set_ne h]
theorem getD_set_self (bs : List Nat) (i v : Nat) (h : i < bs.length) : (bs.set i v).getD i 0 = v := by
  rw [List.getD_eq_getElem?_getD, List.getElem?_set_self h]
  rfl
theorem two_bits (bs : List Nat) (h8 : Bytes8 bs) (a : Nat) (ha : a + 1 < 8 * bs.length) :
    crcMore 0 ((bs.set (a / 8) (bs.getD (a / 8) 0 ^^^ 2 ^ (a % 8))).set ((a + 1) / 8) ((bs.set (a / 8) (bs.getD (a / 8) 0 ^^^ 2 ^ (a % 8))).getD ((a + 1) / 8) 0 ^^^ 2 ^ ((a + 1) % 8))) ≠ crcMore 0 bs := by
  by_cases hs : a % 8 = 7
  · have e1 : (a + 1) / 8 = a / 8 + 1 := by omega
    have e2 : (a + 1) % 8 = 0 := by omega
    rw [e1, e2, hs, getD_set_ne _ _ _ _ (by omega)]
    exact bit_two bs (a / 8) (by omega)
  · have e1 : (a + 1) / 8 = a / 8 := by omega
    have e2 : (a + 1) % 8 = a % 8 + 1 := by omega
    have hl : a / 8 < bs.length := by omega
    rw [e1, e2, getD_set_self _ _ _ hl, List.set_set, Nat.xor_assoc]
    refine bit_one bs h8 (a / 8) _ hl ?_ ?_
    · exact Nat.xor_lt_two_pow (n := 8) (h8.at_ _) (Nat.xor_lt_two_pow (n := 8) (Nat.pow_lt_pow_right (by omega) (by omega)) (Nat.pow_lt_pow_right (by omega) (by omega)))
    · have : bs.getD (a / 8) 0 = bs[a / 8] := by simp [hl]
      rw [this]
      exact xor_off (pow_next _)
theorem one_bit (bs : List Nat) (h8 : Bytes8 bs) (a : Nat) (ha : a < 8 * bs.length) : crcMore 0 (bs.set (a / 8) (bs.getD (a / 8) 0 ^^^ 2 ^ (a % 8))) ≠ crcMore 0 bs := by
  have hl : a / 8 < bs.length := by omega
  refine bit_one bs h8 (a / 8) _ hl ?_ ?_
  · exact Nat.xor_lt_two_pow (n := 8) (h8.at_ _) (Nat.pow_lt_pow_right (by omega) (by omega))
  · have : bs.getD (a / 8) 0 = bs[a / 8] := by simp [hl]
    rw [this]
    exact xor_off (pow_pos8 _)

set_option maxRecDepth 100000 in
set_option maxHeartbeats 8000000 in
theorem crcbits_main (b1 o1 : Nat) (c : Nat) (bs : List Nat) (z : Int) (t : Bool) (w : World) (h1 : Sl w w.heap.size (some ⟨b1, o1, none⟩) (bs.map byteV)) (h8 : Bytes8 bs) (hl : bs.length ≤ 300) (h0 : 0 < bs.length) :
    Calls Try.prog 5 #[.slice (some ⟨b1, o1, none⟩) bs.length c, .int .i64 z, .bool t] w fun e w' => e = .returned (.bool true) ∧ Below w.heap.size w w' := by
  obtain ⟨i0, hi, hz0, hz1, hz2⟩ := info_parts infoByte
  obtain ⟨a, ha, ha2⟩ : ∃ a : Nat, lowI z (8 * (bs.length : Int)) = (a : Int) ∧ a < 8 * bs.length := by
    have := lowI_bd z (8 * (bs.length : Int)) (by omega)
    exact ⟨(lowI z (8 * (bs.length : Int))).toNat, by omega, by omega⟩
  have hne0 : ((bs.length : Int) == 0) = false := by simp only [beq_eq_false_iff_ne, ne_eq]; omega
  have Hcells := Lib.hid (Sl.cells_ h1)
  go_enter Try.func5, Try.ntmps5
  go_wp2_with (first
    | (go_at_call 13; refine (low_any _ _ _ (by omega) (by omega)).mono ?_; rintro e w' ⟨rfl, rfl⟩)
    | (at_builtin; refine wpList_append_lies _ rfl _ _ 22 rfl w.heap.size 5 i0 (.int .u8 0) 1 1 Try.underlying22 hi hz0 hz1 hz2 rfl (by decide) (.slice none 0 0) 0 [] rfl (World.ownsRow_nil _ _ _ _) ⟨b1, o1, none⟩ bs.length c (bs.map byteV) rfl (by simp) (Hcells.out _ rfl) (oneB bs) (by omega) (by unfold maxLen; omega) (by omega) (Nat.le_refl _) _ rfl ?_; intro g cap w1 hown hgrow hat hlt))
  have hgw : w.heap.size = g := by
    rcases hat with h | h
    · cases h
    · exact h.symm
  rw [Nat.zero_add, List.nil_append] at hown
  have hB1 : Below w.heap.size w w1 := (Below.refl _ _).grown hgrow (Nat.le_refl _) (fun j hj => by cases hj)
  by_cases hsec : t = true ∧ a + 1 < 8 * bs.length
  · obtain ⟨rfl, hsec⟩ := hsec
    obtain ⟨ia, hia⟩ : ∃ i, i = (a) / 8 := ⟨_, rfl⟩
    obtain ⟨sha, hsha⟩ : ∃ s, s = (a) % 8 := ⟨_, rfl⟩
    have wta : ((a : Int)).tmod 8 = (sha : Int) := by rw [Int.tmod_eq_emod_of_nonneg (by omega)]; omega
    have wda : ((a : Int)).tdiv 8 = (ia : Int) := by rw [Int.tdiv_eq_ediv_of_nonneg (by omega)]; omega
    have waba : IntKind.i64.wrap ((a : Int)) = (a : Int) := IntWalk.i64_in _ (by omega)
    have hila : ia < bs.length := by omega
    have hsla : sha < 8 := by omega
    have hua := (h8).at_ ia
    obtain ⟨ua, huea⟩ : ∃ u, (bs).getD ia 0 = u := ⟨_, rfl⟩
    rw [huea] at hua
    have wia : IntKind.i64.wrap (ia : Int) = (ia : Int) := IntWalk.i64_in _ (by omega)
    obtain ⟨pa, hpa⟩ : ∃ p : Nat, 2 ^ sha = p := ⟨_, rfl⟩
    have hp8a : pa < 256 := by rw [← hpa]; exact Nat.pow_lt_pow_right (by omega) hsla
    have wsha : IntKind.u8.wrap ((2 : Int) ^ sha) = (pa : Int) := by
      have e : ((2 : Int) ^ sha) = (pa : Int) := by rw [← hpa]; push_cast; rfl
      rw [e, IntKind.wrap_u8']
      omega
    have wxa := xor8 hua hp8a
    have hx8a : ua ^^^ pa < 256 := Nat.xor_lt_two_pow (n := 8) hua hp8a
    have hLa : (bs).set ia (ua ^^^ pa) = (bs).set ((a) / 8) ((bs).getD ((a) / 8) 0 ^^^ 2 ^ ((a) % 8)) := by rw [← hia, ← hsha, huea, hpa]
    have cga : w1.cell? ⟨g, ia, none⟩ = some (.int .u8 (ua : Int)) := by
      rw [hown.cellAt ia (by omega), List.getElem?_map, List.getElem?_eq_getElem (by rw [(rfl : bs.length = bs.length)]; exact hila)]
      rw [← huea, List.getD_eq_getElem?_getD, List.getElem?_eq_getElem (by rw [(rfl : bs.length = bs.length)]; exact hila)]
      rfl
    have fga := hown.frozenAt ia
    have i1a : (0 : Int) ≤ (ia : Int) := by omega
    have i2a : (ia : Int) < (bs.length : Int) := by omega
    have HLa := Lib.hid hLa
    have Hia := Lib.hid hia
    clear hLa hia hsha hpa huea
    go_wp2_with fail
    go_still_tail 9, (by kernel_rfl)
    change wpList _ _ _ _ _ w1.drew
    go_wp2_with fail
    have oxa := (hown.stored ia (byteV (ua ^^^ pa))).1.drew
    have hB2 : Below w.heap.size w (w1.setCell ⟨g, ia, none⟩ (.int .u8 ((ua ^^^ pa : Nat) : Int))).drew := below_dn (hB1.setCell (Nat.le_of_eq hgw) _) 1
    change (w1.setCell ⟨g, ia, none⟩ (.int .u8 ((ua ^^^ pa : Nat) : Int))).drew.ownsRow _ _ _ _ _ _ at oxa
    generalize (w1.setCell ⟨g, ia, none⟩ (.int .u8 ((ua ^^^ pa : Nat) : Int))).drew = w2 at oxa hB2 ⊢
    rw [← List.map_set] at oxa
    obtain ⟨ib, hib⟩ : ∃ i, i = (a + 1) / 8 := ⟨_, rfl⟩
    obtain ⟨shb, hshb⟩ : ∃ s, s = (a + 1) % 8 := ⟨_, rfl⟩
    have wtb : ((a : Int) + 1).tmod 8 = (shb : Int) := by rw [Int.tmod_eq_emod_of_nonneg (by omega)]; omega
    have wdb : ((a : Int) + 1).tdiv 8 = (ib : Int) := by rw [Int.tdiv_eq_ediv_of_nonneg (by omega)]; omega
    have wabb : IntKind.i64.wrap ((a : Int) + 1) = (a : Int) + 1 := IntWalk.i64_in _ (by omega)
    have hilb : ib < bs.length := by omega
    have hslb : shb < 8 := by omega
    have hub := ((h8.set_ ia hx8a)).at_ ib
    obtain ⟨ub, hueb⟩ : ∃ u, (bs.set ia (ua ^^^ pa)).getD ib 0 = u := ⟨_, rfl⟩
    rw [hueb] at hub
    have wib : IntKind.i64.wrap (ib : Int) = (ib : Int) := IntWalk.i64_in _ (by omega)
    obtain ⟨pb, hpb⟩ : ∃ p : Nat, 2 ^ shb = p := ⟨_, rfl⟩
    have hp8b : pb < 256 := by rw [← hpb]; exact Nat.pow_lt_pow_right (by omega) hslb
    have wshb : IntKind.u8.wrap ((2 : Int) ^ shb) = (pb : Int) := by
      have e : ((2 : Int) ^ shb) = (pb : Int) := by rw [← hpb]; push_cast; rfl
      rw [e, IntKind.wrap_u8']
      omega
    have wxb := xor8 hub hp8b
    have hx8b : ub ^^^ pb < 256 := Nat.xor_lt_two_pow (n := 8) hub hp8b
    have hLb : (bs.set ia (ua ^^^ pa)).set ib (ub ^^^ pb) = (bs.set ia (ua ^^^ pa)).set ((a + 1) / 8) ((bs.set ia (ua ^^^ pa)).getD ((a + 1) / 8) 0 ^^^ 2 ^ ((a + 1) % 8)) := by rw [← hib, ← hshb, hueb, hpb]
    have cgb : w2.cell? ⟨g, ib, none⟩ = some (.int .u8 (ub : Int)) := by
      rw [oxa.cellAt ib (by omega), List.getElem?_map, List.getElem?_eq_getElem (by rw [List.length_set]; exact hilb)]
      rw [← hueb, List.getD_eq_getElem?_getD, List.getElem?_eq_getElem (by rw [List.length_set]; exact hilb)]
      rfl
    have fgb := oxa.frozenAt ib
    have i1b : (0 : Int) ≤ (ib : Int) := by omega
    have i2b : (ib : Int) < (bs.length : Int) := by omega
    have HLb := Lib.hid hLb
    have Hib := Lib.hid hib
    clear hLb hib hshb hpb hueb
    go_wp2_with fail
    go_still_tail 11, (by kernel_rfl)
    change wpList _ _ _ _ _ w2.drew
    go_wp2_with fail
    have oxb := (oxa.stored ib (byteV (ub ^^^ pb))).1.drew
    have hB3 : Below w.heap.size w (w2.setCell ⟨g, ib, none⟩ (.int .u8 ((ub ^^^ pb : Nat) : Int))).drew := below_dn (hB2.setCell (Nat.le_of_eq hgw) _) 1
    change (w2.setCell ⟨g, ib, none⟩ (.int .u8 ((ub ^^^ pb : Nat) : Int))).drew.ownsRow _ _ _ _ _ _ at oxb
    generalize (w2.setCell ⟨g, ib, none⟩ (.int .u8 ((ub ^^^ pb : Nat) : Int))).drew = w3 at oxb hB3 ⊢
    rw [← List.map_set] at oxb
    have hneL : crcMore 0 ((bs.set ia (ua ^^^ pa)).set ib (ub ^^^ pb)) ≠ crcMore 0 bs := (by rw [HLb.out, HLa.out]; exact two_bits bs h8 a hsec)
    have L8 : Bytes8 ((bs.set ia (ua ^^^ pa)).set ib (ub ^^^ pb)) := (h8.set_ ia hx8a).set_ ib hx8b
    have hlen : bs.length = ((bs.set ia (ua ^^^ pa)).set ib (ub ^^^ pb)).length := by simp
    obtain ⟨LL, hLL⟩ : ∃ l, ((bs.set ia (ua ^^^ pa)).set ib (ub ^^^ pb)) = l := ⟨_, rfl⟩
    rw [hLL] at hneL L8 hlen
    have sx : Sl w3 w3.heap.size (some ⟨g, 0, none⟩) (LL.map byteV) := by rw [← hLL]; exact Sl.of_own oxb
    have sb := h1.next hB3
    have e1 := crcMore_lt (bs := LL) (s := 0) (by omega)
    obtain ⟨S1, hS1⟩ : ∃ x, crcMore 0 LL = x := ⟨_, rfl⟩
    obtain ⟨S2, hS2⟩ : ∃ x, crcMore 0 bs = x := ⟨_, rfl⟩
    rw [hS1, hS2] at hneL
    have hdec : ((S1 : Int) != (S2 : Int)) = true := by
      simp only [bne_iff_ne, ne_eq]
      omega
    have J1 := Lib.hid hS1
    have J2 := Lib.hid hS2
    have hlen' := Lib.hid hlen
    clear hS1 hS2 hneL e1 hLL hlen
    go_wp2_with (first
      | (go_at_call 8; ((with_reducible refine (crcOf_n LL bs.length (some ⟨g, 0, none⟩) cap _ hlen'.out sx L8 (by have := hlen'.out; omega)).mono ?_); rw [J1.out]; rintro e' w' ⟨rfl, rfl⟩))
      | (go_at_call 8; ((with_reducible refine (crcOf_n bs bs.length (some ⟨b1, o1, none⟩) c _ rfl sb h8 (by omega)).mono ?_); rw [J2.out]; rintro e' w' ⟨rfl, rfl⟩))
      | (go_at_call 6; refine (crcAwake_any _).mono ?_; rintro e' w' ⟨rfl, hb3⟩))
    go_ret
    exact ⟨rfl, btr hB3 hB3.size hb3⟩
  · have hsec' : t = false ∨ t = true ∧ 8 * bs.length ≤ a + 1 := by
      cases t
      · exact Or.inl rfl
      · exact Or.inr ⟨rfl, by have := not_and.1 hsec rfl; omega⟩
    clear hsec
    rcases hsec' with rfl | ⟨rfl, hsec⟩
    · obtain ⟨ia, hia⟩ : ∃ i, i = (a) / 8 := ⟨_, rfl⟩
      obtain ⟨sha, hsha⟩ : ∃ s, s = (a) % 8 := ⟨_, rfl⟩
      have wta : ((a : Int)).tmod 8 = (sha : Int) := by rw [Int.tmod_eq_emod_of_nonneg (by omega)]; omega
      have wda : ((a : Int)).tdiv 8 = (ia : Int) := by rw [Int.tdiv_eq_ediv_of_nonneg (by omega)]; omega
      have waba : IntKind.i64.wrap ((a : Int)) = (a : Int) := IntWalk.i64_in _ (by omega)
      have hila : ia < bs.length := by omega
      have hsla : sha < 8 := by omega
      have hua := (h8).at_ ia
      obtain ⟨ua, huea⟩ : ∃ u, (bs).getD ia 0 = u := ⟨_, rfl⟩
      rw [huea] at hua
      have wia : IntKind.i64.wrap (ia : Int) = (ia : Int) := IntWalk.i64_in _ (by omega)
      obtain ⟨pa, hpa⟩ : ∃ p : Nat, 2 ^ sha = p := ⟨_, rfl⟩
      have hp8a : pa < 256 := by rw [← hpa]; exact Nat.pow_lt_pow_right (by omega) hsla
      have wsha : IntKind.u8.wrap ((2 : Int) ^ sha) = (pa : Int) := by
        have e : ((2 : Int) ^ sha) = (pa : Int) := by rw [← hpa]; push_cast; rfl
        rw [e, IntKind.wrap_u8']
        omega
      have wxa := xor8 hua hp8a
      have hx8a : ua ^^^ pa < 256 := Nat.xor_lt_two_pow (n := 8) hua hp8a
      have hLa : (bs).set ia (ua ^^^ pa) = (bs).set ((a) / 8) ((bs).getD ((a) / 8) 0 ^^^ 2 ^ ((a) % 8)) := by rw [← hia, ← hsha, huea, hpa]
      have cga : w1.cell? ⟨g, ia, none⟩ = some (.int .u8 (ua : Int)) := by
        rw [hown.cellAt ia (by omega), List.getElem?_map, List.getElem?_eq_getElem (by rw [(rfl : bs.length = bs.length)]; exact hila)]
        rw [← huea, List.getD_eq_getElem?_getD, List.getElem?_eq_getElem (by rw [(rfl : bs.length = bs.length)]; exact hila)]
        rfl
      have fga := hown.frozenAt ia
      have i1a : (0 : Int) ≤ (ia : Int) := by omega
      have i2a : (ia : Int) < (bs.length : Int) := by omega
      have HLa := Lib.hid hLa
      have Hia := Lib.hid hia
      clear hLa hia hsha hpa huea
      go_wp2_with fail
      go_still_tail 9, (by kernel_rfl)
      change wpList _ _ _ _ _ w1.drew
      go_wp2_with fail
      have oxa := (hown.stored ia (byteV (ua ^^^ pa))).1.drew
      have hB2 : Below w.heap.size w (w1.setCell ⟨g, ia, none⟩ (.int .u8 ((ua ^^^ pa : Nat) : Int))).drew := below_dn (hB1.setCell (Nat.le_of_eq hgw) _) 1
      change (w1.setCell ⟨g, ia, none⟩ (.int .u8 ((ua ^^^ pa : Nat) : Int))).drew.ownsRow _ _ _ _ _ _ at oxa
      generalize (w1.setCell ⟨g, ia, none⟩ (.int .u8 ((ua ^^^ pa : Nat) : Int))).drew = w2 at oxa hB2 ⊢
      rw [← List.map_set] at oxa
      have hneL : crcMore 0 (bs.set ia (ua ^^^ pa)) ≠ crcMore 0 bs := (by rw [HLa.out]; exact one_bit bs h8 a ha2)
      have L8 : Bytes8 (bs.set ia (ua ^^^ pa)) := h8.set_ ia hx8a
      have hlen : bs.length = (bs.set ia (ua ^^^ pa)).length := by simp
      obtain ⟨LL, hLL⟩ : ∃ l, (bs.set ia (ua ^^^ pa)) = l := ⟨_, rfl⟩
      rw [hLL] at hneL L8 hlen
      have sx : Sl w2 w2.heap.size (some ⟨g, 0, none⟩) (LL.map byteV) := by rw [← hLL]; exact Sl.of_own oxa
      have sb := h1.next hB2
      have e1 := crcMore_lt (bs := LL) (s := 0) (by omega)
      obtain ⟨S1, hS1⟩ : ∃ x, crcMore 0 LL = x := ⟨_, rfl⟩
      obtain ⟨S2, hS2⟩ : ∃ x, crcMore 0 bs = x := ⟨_, rfl⟩
      rw [hS1, hS2] at hneL
      have hdec : ((S1 : Int) != (S2 : Int)) = true := by
        simp only [bne_iff_ne, ne_eq]
        omega
      have J1 := Lib.hid hS1
      have J2 := Lib.hid hS2
      have hlen' := Lib.hid hlen
      clear hS1 hS2 hneL e1 hLL hlen
      go_wp2_with (first
        | (go_at_call 8; ((with_reducible refine (crcOf_n LL bs.length (some ⟨g, 0, none⟩) cap _ hlen'.out sx L8 (by have := hlen'.out; omega)).mono ?_); rw [J1.out]; rintro e' w' ⟨rfl, rfl⟩))
        | (go_at_call 8; ((with_reducible refine (crcOf_n bs bs.length (some ⟨b1, o1, none⟩) c _ rfl sb h8 (by omega)).mono ?_); rw [J2.out]; rintro e' w' ⟨rfl, rfl⟩))
        | (go_at_call 6; refine (crcAwake_any _).mono ?_; rintro e' w' ⟨rfl, hb3⟩))
      go_ret
      exact ⟨rfl, btr hB2 hB2.size hb3⟩
    · obtain ⟨ia, hia⟩ : ∃ i, i = (a) / 8 := ⟨_, rfl⟩
      obtain ⟨sha, hsha⟩ : ∃ s, s = (a) % 8 := ⟨_, rfl⟩
      have wta : ((a : Int)).tmod 8 = (sha : Int) := by rw [Int.tmod_eq_emod_of_nonneg (by omega)]; omega
      have wda : ((a : Int)).tdiv 8 = (ia : Int) := by rw [Int.tdiv_eq_ediv_of_nonneg (by omega)]; omega
      have waba : IntKind.i64.wrap ((a : Int)) = (a : Int) := IntWalk.i64_in _ (by omega)
      have hila : ia < bs.length := by omega
      have hsla : sha < 8 := by omega
      have hua := (h8).at_ ia
      obtain ⟨ua, huea⟩ : ∃ u, (bs).getD ia 0 = u := ⟨_, rfl⟩
      rw [huea] at hua
      have wia : IntKind.i64.wrap (ia : Int) = (ia : Int) := IntWalk.i64_in _ (by omega)
      obtain ⟨pa, hpa⟩ : ∃ p : Nat, 2 ^ sha = p := ⟨_, rfl⟩
      have hp8a : pa < 256 := by rw [← hpa]; exact Nat.pow_lt_pow_right (by omega) hsla
      have wsha : IntKind.u8.wrap ((2 : Int) ^ sha) = (pa : Int) := by
        have e : ((2 : Int) ^ sha) = (pa : Int) := by rw [← hpa]; push_cast; rfl
        rw [e, IntKind.wrap_u8']
        omega
      have wxa := xor8 hua hp8a
      have hx8a : ua ^^^ pa < 256 := Nat.xor_lt_two_pow (n := 8) hua hp8a
      have hLa : (bs).set ia (ua ^^^ pa) = (bs).set ((a) / 8) ((bs).getD ((a) / 8) 0 ^^^ 2 ^ ((a) % 8)) := by rw [← hia, ← hsha, huea, hpa]
      have cga : w1.cell? ⟨g, ia, none⟩ = some (.int .u8 (ua : Int)) := by
        rw [hown.cellAt ia (by omega), List.getElem?_map, List.getElem?_eq_getElem (by rw [(rfl : bs.length = bs.length)]; exact hila)]
        rw [← huea, List.getD_eq_getElem?_getD, List.getElem?_eq_getElem (by rw [(rfl : bs.length = bs.length)]; exact hila)]
        rfl
      have fga := hown.frozenAt ia
      have i1a : (0 : Int) ≤ (ia : Int) := by omega
      have i2a : (ia : Int) < (bs.length : Int) := by omega
      have HLa := Lib.hid hLa
      have Hia := Lib.hid hia
      clear hLa hia hsha hpa huea
      go_wp2_with fail
      go_still_tail 9, (by kernel_rfl)
      change wpList _ _ _ _ _ w1.drew
      go_wp2_with fail
      have oxa := (hown.stored ia (byteV (ua ^^^ pa))).1.drew
      have hB2 : Below w.heap.size w (w1.setCell ⟨g, ia, none⟩ (.int .u8 ((ua ^^^ pa : Nat) : Int))).drew := below_dn (hB1.setCell (Nat.le_of_eq hgw) _) 1
      change (w1.setCell ⟨g, ia, none⟩ (.int .u8 ((ua ^^^ pa : Nat) : Int))).drew.ownsRow _ _ _ _ _ _ at oxa
      generalize (w1.setCell ⟨g, ia, none⟩ (.int .u8 ((ua ^^^ pa : Nat) : Int))).drew = w2 at oxa hB2 ⊢
      rw [← List.map_set] at oxa
      have hneL : crcMore 0 (bs.set ia (ua ^^^ pa)) ≠ crcMore 0 bs := (by rw [HLa.out]; exact one_bit bs h8 a ha2)
      have L8 : Bytes8 (bs.set ia (ua ^^^ pa)) := h8.set_ ia hx8a
      have hlen : bs.length = (bs.set ia (ua ^^^ pa)).length := by simp
      obtain ⟨LL, hLL⟩ : ∃ l, (bs.set ia (ua ^^^ pa)) = l := ⟨_, rfl⟩
      rw [hLL] at hneL L8 hlen
      have sx : Sl w2 w2.heap.size (some ⟨g, 0, none⟩) (LL.map byteV) := by rw [← hLL]; exact Sl.of_own oxa
      have sb := h1.next hB2
      have e1 := crcMore_lt (bs := LL) (s := 0) (by omega)
      obtain ⟨S1, hS1⟩ : ∃ x, crcMore 0 LL = x := ⟨_, rfl⟩
      obtain ⟨S2, hS2⟩ : ∃ x, crcMore 0 bs = x := ⟨_, rfl⟩
      rw [hS1, hS2] at hneL
      have hdec : ((S1 : Int) != (S2 : Int)) = true := by
        simp only [bne_iff_ne, ne_eq]
        omega
      have J1 := Lib.hid hS1
      have J2 := Lib.hid hS2
      have hlen' := Lib.hid hlen
      clear hS1 hS2 hneL e1 hLL hlen
      go_wp2_with (first
        | (go_at_call 8; ((with_reducible refine (crcOf_n LL bs.length (some ⟨g, 0, none⟩) cap _ hlen'.out sx L8 (by have := hlen'.out; omega)).mono ?_); rw [J1.out]; rintro e' w' ⟨rfl, rfl⟩))
        | (go_at_call 8; ((with_reducible refine (crcOf_n bs bs.length (some ⟨b1, o1, none⟩) c _ rfl sb h8 (by omega)).mono ?_); rw [J2.out]; rintro e' w' ⟨rfl, rfl⟩))
        | (go_at_call 6; refine (crcAwake_any _).mono ?_; rintro e' w' ⟨rfl, hb3⟩))
      go_ret
      exact ⟨rfl, btr hB2 hB2.size hb3⟩

set_option maxRecDepth 100000 in
set_option maxHeartbeats 4000000 in
theorem crcbits_walk (A : Option Addr) (n c : Nat) (bs : List Nat) (z : Int) (t : Bool) (w : World) (hs0 : SlA w A n c (bs.map byteV)) (h8 : Bytes8 bs) (_ : i64in z) :
    Calls Try.prog 5 #[.slice A n c, .int .i64 z, .bool t] w fun e w' => e = .returned (.bool true) ∧ Below w.heap.size w w' := by
  obtain ⟨hn, h1, hc, _, hA⟩ := hs0
  obtain rfl : n = bs.length := by simpa using hn
  by_cases hl : bs.length ≤ 300 ∧ 0 < bs.length
  · obtain ⟨b1, o1, rfl, _, _⟩ := h1.at_ (by simpa using hl.2)
    exact crcbits_main b1 o1 c bs z t w h1 h8 hl.1 hl.2
  · clear hn hA
    go_enter Try.func5, Try.ntmps5
    by_cases h3 : bs.length ≤ 300
    · have h0 : bs.length = 0 := by omega
      go_wp2_with (go_at_call 6; refine (crcAwake_any _).mono ?_; rintro e w3 ⟨rfl, hb3⟩)
      go_ret
      exact ⟨rfl, hb3⟩
    · go_wp2_with (go_at_call 6; refine (crcAwake_any _).mono ?_; rintro e w3 ⟨rfl, hb3⟩)
      go_ret
      exact ⟨rfl, hb3⟩
end Go.Proofs.Ytgldagkhepekdaa
