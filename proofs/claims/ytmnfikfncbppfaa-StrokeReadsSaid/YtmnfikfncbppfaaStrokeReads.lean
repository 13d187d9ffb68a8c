/- StrokeReads: the walk. -/
import Derived.Test.YtmnfikfncbppfaaSrN
import Derived.Test.YtmnfikfncbppfaaTagLO
import Derived.Test.YtmnfikfncbppfaaOpenS2
namespace Go.Proofs.Ytmnfikfncbppfaa
open Go.ChangeShapes Go.WideShapes Go.ChangeAt Go.RowKit
set_option linter.unusedSimpArgs false
set_option linter.unusedVariables false

attribute [local go_sem ↓] Go.wp_at_zero Go.wp_at_succ
theorem keptB_n (xs : List Nat) (n : Nat) (hn : xs.length = n) (g : Nat) (B : Option Addr) (d : Nat) (w : World) (h1 : LentB w g (xs.map byteV)) (h2 : Sl w w.heap.size B (xs.map byteV)) (n1 : n ≤ 1000000) :
    Calls Try.prog 8 #[.slice (some ⟨g, 0, none⟩) n (n + 3), .slice B n d] w fun e w' => e = .returned (.bool true) ∧ Below w.heap.size w w' := by
  subst hn
  exact (keptB_any xs xs g B d w h1 h2 n1 n1).mono fun e w' h => ⟨by rw [h.1]; simp, h.2⟩
theorem lendB_n (bs : List Nat) (n : Nat) (hn : bs.length = n) (A : Option Addr) (c : Nat) (w : World) (h1 : Sl w w.heap.size A (bs.map byteV)) (n1 : bs.length ≤ 1000000) (hA : A = none → bs.length = 0 ∧ c = 0) :
    Calls Try.prog 5 #[.slice A n c] w fun e w' =>
      ∃ g, e = .returned (.slice (some ⟨g, 0, none⟩) n (n + 3)) ∧ w.heap.size ≤ g ∧ LentB w' g (bs.map byteV) ∧ w'.ownsRow w.heap.size 5 1 (.slice (some ⟨g, 0, none⟩) n (n + 3)) n (bs.map byteV) ∧ Below w.heap.size w w' := by
  subst hn
  exact lendB_own bs A c w h1 n1 hA
theorem num_any (z : Int) (w : World) : Calls Try.prog 11 #[.int .i64 z] w fun e w' => e = .returned (.int .i64 z) ∧ w = w' := by
  go_enter Try.func11, Try.ntmps11
  go_wp2
  go_ret
  exact ⟨rfl, rfl⟩
theorem RowS.grown_ {w w' : World} {base g : Nat} {v : Value} {es : List (St × Value)} (h : RowS w base v es) (hg : w.grownBy w' (some g)) (hb : g < base) : RowS w' base v es :=
  h.keep fun k h1 h2 _ => hg.block k h2 (fun hc => by cases hc; omega)
theorem read_some (b : List Nat) (ss : List St) (n : Nat) (A : Option Addr) (c : Nat) (w : World) (hr : rd b = some ss) (hn : b.length = n) (h : Sl w w.heap.size A (b.map byteV)) (h8 : Bytes8 b) (hc : n ≤ c) (hcm : c ≤ maxLen) (n1 : n ≤ 1000) :
    Calls Try.prog 6 #[.slice A n c] w fun e' w' => (∃ v es, es.map Prod.fst = ss ∧ e' = .returned (.tuple #[v, .int .i64 0]) ∧ RowS w' w.heap.size v es) ∧ Below w.heap.size w w' := by
  refine (sread_any b n A c w hn h h8 hc hcm n1).mono ?_
  rintro e' w' ⟨hg, hb⟩
  refine ⟨?_, hb⟩
  rcases hg with ⟨v, es, h1, h2, h3⟩ | ⟨h1, _⟩
  · rw [hr] at h1
    exact ⟨v, es, (Option.some.inj h1).symm, h3, h2⟩
  · rw [hr] at h1
    cases h1
theorem rread_some (b : List Nat) (ss : List St) (n : Nat) (A : Option Addr) (c : Nat) (w : World) (hr : rd b = some ss) (hn : b.length = n) (h : Sl w w.heap.size A (b.map byteV)) (h8 : Bytes8 b) (n1 : n ≤ 1000) :
    Calls Try.prog 7 #[.slice A n c] w fun e' w' => (∃ v es, es.map Prod.fst = ss ∧ e' = .returned (.tuple #[v, .int .i64 0]) ∧ RowS w' w.heap.size v es) ∧ Below w.heap.size w w' := by
  refine (rread_any b n A c w hn h h8 n1).mono ?_
  rintro e' w' ⟨hg, hb⟩
  refine ⟨?_, hb⟩
  unfold GotR at hg
  rw [rref_eq] at hg
  rcases hg with ⟨v, es, h1, h2, h3⟩ | ⟨h1, _⟩
  · rw [hr] at h1
    exact ⟨v, es, (Option.some.inj h1).symm, h3, h2⟩
  · rw [hr] at h1
    cases h1
theorem read_none (b : List Nat) (n : Nat) (A : Option Addr) (c : Nat) (w : World) (hr : rd b = none) (hn : b.length = n) (h : Sl w w.heap.size A (b.map byteV)) (h8 : Bytes8 b) (hc : n ≤ c) (hcm : c ≤ maxLen) (n1 : n ≤ 1000) :
    Calls Try.prog 6 #[.slice A n c] w fun e' w' => e' = .returned (.tuple #[.slice none 0 0, .int .i64 5]) ∧ Below w.heap.size w w' := by
  refine (sread_any b n A c w hn h h8 hc hcm n1).mono ?_
  rintro e' w' ⟨hg, hb⟩
  refine ⟨?_, hb⟩
  rcases hg with ⟨v, es, h1, h2, h3⟩ | ⟨_, h1⟩
  · rw [hr] at h1
    cases h1
  · exact h1
theorem rread_none (b : List Nat) (n : Nat) (A : Option Addr) (c : Nat) (w : World) (hr : rd b = none) (hn : b.length = n) (h : Sl w w.heap.size A (b.map byteV)) (h8 : Bytes8 b) (n1 : n ≤ 1000) :
    Calls Try.prog 7 #[.slice A n c] w fun e' w' => e' = .returned (.tuple #[.slice none 0 0, .int .i64 5]) ∧ Below w.heap.size w w' := by
  refine (rread_any b n A c w hn h h8 n1).mono ?_
  rintro e' w' ⟨hg, hb⟩
  refine ⟨?_, hb⟩
  unfold GotR at hg
  rw [rref_eq] at hg
  rcases hg with ⟨v, es, h1, h2, h3⟩ | ⟨_, h1⟩
  · rw [hr] at h1
    cases h1
  · exact h1
theorem sameSh_0 (w : World) : Calls Try.prog 10 #[.slice none 0 0, .slice none 0 0] w fun e' w' => e' = .returned (.bool true) ∧ Below w.heap.size w w' :=
  sameSh_any [] [] 0 none none 0 0 w rfl rfl ⟨Or.inl rfl, by simp⟩ ⟨Or.inl rfl, by simp⟩ rfl (by simp) (by omega)
set_option maxRecDepth 100000 in
set_option maxHeartbeats 8000000 in
theorem sreads_walk (A1 : Option Addr) (n1 c1 : Nat) (raw : List Nat) (w : World) (r1 : SlA w A1 n1 c1 (raw.map byteV)) (h8 : Bytes8 raw) :
    Calls Try.prog 3 #[.slice A1 n1 c1] w fun e' w' => e' = .returned (.bool true) ∧ Below w.heap.size w w' := by
  obtain ⟨e1, h1, k1, k1p, hnil⟩ := r1
  rw [List.length_map] at e1
  have H1 := h1
  have HN : Hid (raw.length = n1) := Lib.hid e1.symm
  have HNIL : Hid (A1 = none → raw.length = 0 ∧ c1 = 0) := Lib.hid (by rw [← e1]; exact hnil)
  have H8 := Lib.hid h8
  clear e1 hnil h1 h8
  by_cases hx : 400 < n1
  · have g1 : (400 : Int) < (n1 : Int) := by omega
    clear hx
    go_enter Try.func3, Try.ntmps3
    go_wp2_with (go_at_call 4; ((with_reducible refine (awake_any _).mono ?_); rintro e' wA ⟨rfl, hbA⟩))
    go_ret
    exact ⟨rfl, hbA⟩
  have g1 : ¬ (400 : Int) < (n1 : Int) := by omega
  have m1 : n1 ≤ 400 := by omega
  clear hx
  obtain ⟨r, hr⟩ : ∃ r, rd raw = r := ⟨_, rfl⟩
  cases r with
  | none =>
    have HR := Lib.hid hr
    clear hr
    go_enter Try.func3, Try.ntmps3
    go_wp2_with (first
      | (go_at_call 5; ((with_reducible refine (lendB_n raw n1 HN.out A1 c1 _ H1 (by have := HN.out; omega) HNIL.out).mono ?_); rintro e' wL ⟨gL, rfl, hgL, LT, LO, hbL⟩; have H1 := H1.next hbL; have hltL := LT.lt; have LO := LO))
      | (go_at_call 6; ((with_reducible refine (read_none raw n1 (some ⟨gL, 0, none⟩) (n1 + 3) _ HR.out HN.out LT.sl H8.out (by omega) (by unfold maxLen; omega) (by omega)).mono ?_); rintro e' wV ⟨rfl, hbV⟩; have HBV := hbL.trans (hbV.mono hbL.size); have H1 := H1.next hbV; have LT := LT.below hbV LT.lt; have LO := own_below LO hbV))
      | (go_at_call 7; ((with_reducible refine (rread_none raw n1 A1 c1 _ HR.out HN.out H1 H8.out (by omega)).mono ?_); rintro e' wX ⟨rfl, hbX⟩; have HBX := HBV.trans (hbX.mono HBV.size); have H1 := H1.next hbX; have LT := LT.below hbX LT.lt; have LO := own_below LO hbX))
      | (go_at_call 8; ((with_reducible refine (keptB_n raw n1 HN.out gL A1 _ _ LT H1 (by omega)).mono ?_); rintro e' wK ⟨rfl, hbK⟩; have HBK := HBX.trans (hbK.mono HBX.size); have LOK := own_below LO hbK))
      | (go_at_call 9; ((with_reducible refine (over_own n1 gL (n1 + 3) _ w.heap.size _ LOK HBK.size (by omega)).mono ?_); rintro e' wO ⟨⟨vO, rfl⟩, hg⟩; have HBO := HBK.grown hg HBK.size (fun k hk => by cases hk; exact hgL)))
      | (go_at_call 10; ((with_reducible refine (sameSh_0 _).mono ?_); rintro e' wS ⟨rfl, hbS⟩; have HBS := HBO.trans (hbS.mono HBO.size)))
      | (go_at_call 11; ((with_reducible refine (num_any _ _).mono ?_); rintro e' wN ⟨rfl, rfl⟩))
      | (go_at_call 4; ((with_reducible refine (awake_any _).mono ?_); rintro e' wA ⟨rfl, hbA⟩; have HBA := HBS.trans (hbA.mono HBS.size))))
    go_ret
    exact ⟨rfl, HBA⟩
  | some ss =>
    have hss : ss.length ≤ 6 ∧ ∀ s ∈ ss, s.2.length ≤ 10 := ⟨mayS_len (rd_some hr).2, fun s hs => (mayT_bd (mayS_all (rd_some hr).2 s hs)).2.2.2.2⟩
    have HS := Lib.hid hss
    have HR := Lib.hid hr
    clear hr hss
    go_enter Try.func3, Try.ntmps3
    go_wp2_with (first
      | (go_at_call 5; ((with_reducible refine (lendB_n raw n1 HN.out A1 c1 _ H1 (by have := HN.out; omega) HNIL.out).mono ?_); rintro e' wL ⟨gL, rfl, hgL, LT, LO, hbL⟩; have H1 := H1.next hbL; have hltL := LT.lt; have LO := LO))
      | (go_at_call 6; ((with_reducible refine (read_some raw ss n1 (some ⟨gL, 0, none⟩) (n1 + 3) _ HR.out HN.out LT.sl H8.out (by omega) (by unfold maxLen; omega) (by omega)).mono ?_); rintro e' wV ⟨⟨v1, es, he1, rfl, hR1⟩, hbV⟩; have HBV := hbL.trans (hbV.mono hbL.size); have H1 := H1.next hbV; have LT := LT.below hbV LT.lt; have LO := own_below LO hbV))
      | (go_at_call 7; ((with_reducible refine (rread_some raw ss n1 A1 c1 _ HR.out HN.out H1 H8.out (by omega)).mono ?_); rintro e' wX ⟨⟨v2, fs, he2, rfl, hR2⟩, hbX⟩; have HBX := HBV.trans (hbX.mono HBV.size); have H1 := H1.next hbX; have LT := LT.below hbX LT.lt; have LO := own_below LO hbX; have hR1 := hR1.below hbX))
      | (go_at_call 8; ((with_reducible refine (keptB_n raw n1 HN.out gL A1 _ _ LT H1 (by omega)).mono ?_); rintro e' wK ⟨rfl, hbK⟩; have HBK := HBX.trans (hbK.mono HBX.size); have LOK := own_below LO hbK; have hR1 := hR1.below hbK; have hR2 := hR2.below hbK))
      | (go_at_call 9; ((with_reducible refine (over_own n1 gL (n1 + 3) _ w.heap.size _ LOK HBK.size (by omega)).mono ?_); rintro e' wO ⟨⟨vO, rfl⟩, hg⟩; have HBO := HBK.grown hg HBK.size (fun k hk => by cases hk; exact hgL); have hR1 := hR1.grown_ hg hltL; have hR2 := hR2.grown_ hg (Nat.lt_of_lt_of_le hltL hbV.size); obtain ⟨A3, c3, rfl, sh1⟩ := hR1.sh; obtain ⟨A4, c4, rfl, sh2⟩ := hR2.sh; obtain ⟨kk1, hk1⟩ : ∃ k, es.length = k := ⟨_, rfl⟩; obtain hk2 : fs.length = kk1 := (by rw [← hk1, ← List.length_map (f := Prod.fst), he2, ← he1, List.length_map])))
      | (go_at_call 10; ((with_reducible refine (sameSh_any es fs kk1 A3 A4 c3 c4 _ hk1 hk2 sh1 sh2 (he1.trans he2.symm) (fun e he => by have := HS.out.2 e.1 (by rw [← he1]; exact List.mem_map_of_mem he); omega) (by have := HS.out.1; rw [← he1, List.length_map] at this; omega)).mono ?_); rintro e' wS ⟨rfl, hbS⟩; have HBS := HBO.trans (hbS.mono HBO.size)))
      | (go_at_call 11; ((with_reducible refine (num_any _ _).mono ?_); rintro e' wN ⟨rfl, rfl⟩))
      | (go_at_call 4; ((with_reducible refine (awake_any _).mono ?_); rintro e' wA ⟨rfl, hbA⟩; have HBA := HBS.trans (hbA.mono HBS.size))))
    go_ret
    exact ⟨rfl, HBA⟩
end Go.Proofs.Ytmnfikfncbppfaa
