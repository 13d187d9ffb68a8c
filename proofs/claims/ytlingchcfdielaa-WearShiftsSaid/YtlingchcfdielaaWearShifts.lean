/- WearShifts: the walk. -/
import Derived.Test.YtlingchcfdielaaWearTells
import Derived.Test.YtlingchcfdielaaWearSM
import Derived.Test.YtlingchcfdielaaSl2
import Derived.Deep.RegionHeld3
import Derived.Deep.DrawnRows
import Derived.Deep.DeepCutAuto
import Derived.Test.YtlingchcfdielaaOpenS2
namespace Go.Proofs.Ytlingchcfdielaa
open Go.ChangeShapes Go.WideShapes Go.ChangeAt Go.RowKit
attribute [local go_sem ↓] Go.wp_at_zero Go.wp_at_succ
set_option linter.unusedSimpArgs false
set_option linter.unusedVariables false

set_option maxRecDepth 100000 in
set_option maxHeartbeats 2000000 in
theorem shifts_walk (A1 : Option Addr) (m1 c1 : Nat) (xs : List Int) (A2 : Option Addr) (m2 c2 : Nat) (good : List Bool) (more which : Int) (w : World)
    (r1 : SlA w A1 m1 c1 (xs.map (Value.int .i64))) (_ : ∀ z ∈ xs, i64in z) (r2 : SlA w A2 m2 c2 (good.map Value.bool)) (_ : i64in more) (_ : i64in which) :
    Calls Try.prog 5 #[.slice A1 m1 c1, .slice A2 m2 c2, .int .i64 more, .int .i64 which] w fun e' w' => e' = .returned (.bool true) ∧ Below w.heap.size w w' := by
  obtain ⟨e1, h1, _⟩ := r1
  obtain ⟨e2, h2, _⟩ := r2
  rw [List.length_map] at e1 e2
  subst e1 e2
  by_cases hg1 : 40 < xs.length
  · have g1 : (40 : Int) < (xs.length : Int) := by omega
    go_enter Try.func5, Try.ntmps5
    go_wp2_with (go_at_call 6; refine (awake_any _).mono ?_; rintro e' w2 ⟨rfl, hb2⟩)
    go_ret
    exact ⟨rfl, hb2⟩
  have g1 : ¬ (40 : Int) < (xs.length : Int) := by omega
  by_cases hg2 : 40 < good.length
  · have g2 : (40 : Int) < (good.length : Int) := by omega
    go_enter Try.func5, Try.ntmps5
    go_wp2_with (go_at_call 6; refine (awake_any _).mono ?_; rintro e' w2 ⟨rfl, hb2⟩)
    go_ret
    exact ⟨rfl, hb2⟩
  have g2 : ¬ (40 : Int) < (good.length : Int) := by omega
  have n2 : good.length ≤ 1000000 := by omega
  have n0 : xs.length ≤ 1000000 := by omega
  obtain ⟨n, hn⟩ : ∃ n, xs.length = n := ⟨_, rfl⟩
  obtain ⟨L, hL⟩ : ∃ L, lowL 1073741824 xs = L := ⟨_, rfl⟩
  have hLb : ∀ z ∈ L, 0 ≤ z ∧ z < 1073741824 := fun z hz => by rw [← hL] at hz; exact lowL_bd (by omega) hz
  have hLn : L.length = n := by rw [← hL]; simp [lowL, hn]
  have bM := lowI_bd more 536870912 (by omega)
  obtain ⟨M, hM⟩ : ∃ M, lowI more 536870912 = M := ⟨_, rfl⟩
  rw [hM] at bM
  obtain ⟨bM1, bM2⟩ := bM
  have EM := Lib.hid hM
  have EL := Lib.hid hL
  have HLN := Lib.hid hLn
  have HLB := Lib.hid hLb
  have HN := Lib.hid hn
  have hn40 : n ≤ 40 := by omega
  clear hM hL hLn hLb hn
  go_enter Try.func5, Try.ntmps5
  go_wp2_with (go_at_call 7; refine (lowlist_any xs A1 c1 _ h1 n0).mono ?_; rintro e' w1 ⟨v, rfl, ho, hB1⟩; rw [EL.out] at ho; replace ho := own_len HN.out ho; obtain ⟨A3, c3, rfl, -, hc3, hc3', -⟩ := own_sliceI ho)
  go_loopw [9] (fun i wr => ∃ k : Nat, k ≤ n ∧ i = .int .i64 k ∧ wr.ownsRow w.heap.size 3 1 (.slice A3 n c3) n ((updL (fun _ z => z / 2) L k).map (Value.int .i64)) ∧ Below w.heap.size w wr) (fun i _ => n - (intOf i).toNat)
  case atStart => exact ⟨0, Nat.zero_le _, rfl, by rw [updL_zero]; exact ho, hB1⟩
  case round =>
    clear ho hB1
    obtain ⟨k, hk, rfl, ho, hB1⟩ := hrel
    by_cases hlt : k < n
    · obtain ⟨g, cap, hv, -, -⟩ := ho.form (by omega)
      cases hv
      have hkL : k < L.length := by have := HLN.out; omega
      obtain ⟨z, hz⟩ : ∃ z, L.getD k 0 = z := ⟨_, rfl⟩
      have zb := HLB.out z (by rw [← hz]; exact getD_mem hkL)
      have cz : wr.cell? ⟨g, k, none⟩ = some (.int .i64 z) := by
        rw [ho.cellAt k (by omega), List.getElem?_map, List.getElem?_eq_getElem (by rw [updL_len]; exact hkL)]
        have := updL_getD (fun _ z => z / 2) L k k hkL
        rw [if_neg (by omega), hz, List.getD_eq_getElem?_getD, List.getElem?_eq_getElem (by rw [updL_len]; exact hkL)] at this
        simp only [Option.getD_some] at this
        rw [this]
        rfl
      have fz := ho.frozenAt k
      have hgb := (ho.lt g rfl).1
      have j0 : (0 : Int) ≤ (k : Int) := by omega
      have j1 : (k : Int) < (n : Int) := by omega
      have z0 := zb.1
      have hst := (ho.stored k (.int .i64 (z / 2))).1
      have hst2 : (wr.setCell ⟨g, k, none⟩ (.int .i64 (z / 2))).ownsRow w.heap.size 3 1 (.slice (some ⟨g, 0, none⟩) n c3) n ((updL (fun _ z => z / 2) L (k + 1)).map (Value.int .i64)) := by
        rw [← updL_set _ _ _ hkL, List.map_set, hz]
        exact hst
      have hq : wrap64 (z.tdiv 2) = z / 2 := by
        rw [Int.tdiv_eq_ediv_of_nonneg z0]
        have := zb.2
        unfold wrap64
        omega
      rw [← hq] at hst2
      have HST := Lib.hid hst2
      clear hst hst2 hz zb hq
      go_wp2
      go_roundw
      case rel => exact ⟨k + 1, by omega, by go_num, HST.out, hB1.setCell hgb _⟩
      case measure => simp [intOf]; omega
    · have hkn : k = n := by omega
      obtain ⟨W, hW⟩ : ∃ W, updL (fun _ z => z / 2) L k = W := ⟨_, rfl⟩
      rw [hW] at ho
      have hWn : W.length = n := by rw [← hW, updL_len]; exact HLN.out
      have hWb : ∀ z ∈ W, 0 ≤ z ∧ z ≤ 536870912 := fun z hz => by
        rw [← hW] at hz
        have hl := HLN.out
        simp only [updL, List.mem_map, List.mem_range] at hz
        obtain ⟨j, hj, rfl⟩ := hz
        have := HLB.out (L.getD j 0) (getD_mem hj)
        rw [if_pos (by omega)]
        omega
      have HWN := Lib.hid hWn
      have HWB := Lib.hid hWb
      obtain ⟨wo, rfl⟩ : ∃ wo : World, wo = wr := ⟨_, rfl⟩
      have q1 : ¬ (k : Int) < (n : Int) := by omega
      clear hW hWn hWb
      go_wp2_with (first
        | (go_at_call 16; refine (low_any more 536870912 _ (by omega) (by omega)).mono ?_; rw [EM.out]; rintro e' w' ⟨rfl, rfl⟩)
        | (at_builtin; obtain ⟨i0, hi, hz0, hz1, hz2⟩ := info_parts infoInt; refine wpList_app _ rfl (.const (.slice none 0 0)) (.tmp 43) _ rfl w.heap.size 3 i0 _ 1 8 Try.underlying22 hi hz0 hz1 hz2 rfl (by decide) (.slice none 0 0) 0 [] rfl (World.ownsRow_nil _ _ _ _) A3 n _ (W.map (Value.int .i64)) rfl (Rd.of_sl (Sl.of_own ho) (by simp; exact HWN.out)) (ints_oneCell .i64 W) (by unfold maxLen; omega) (by omega) hB1.size ?_; intro va wa hoa hga hva; clear hi hz0 hz1 hz2; have hBa := hB1.trans (below_app (Nat.le_refl _) hB1.size (World.ownsRow_nil _ w.heap.size 3 1) hga); have hoW := ho.kept (row := none) hga (by cases A3 <;> simp [Value.ownBlock]); have hD := apart_new ho hva)
        | (at_builtin; obtain ⟨i0, hi, hz0, hz1, hz2⟩ := info_parts infoInt; refine wpList_app _ rfl (.const (.slice none 0 0)) (.tmp 45) _ rfl w.heap.size 3 i0 _ 1 8 Try.underlying22 hi hz0 hz1 hz2 rfl (by decide) (.slice none 0 0) 0 [] rfl (World.ownsRow_nil _ _ _ _) A3 n _ (W.map (Value.int .i64)) rfl (Rd.of_sl (Sl.of_own hoW) (by simp; exact HWN.out)) (ints_oneCell .i64 W) (by unfold maxLen; omega) (by omega) hBa.size ?_; intro vb wb hob hgb hvb; clear hi hz0 hz1 hz2))
      have hoa2 : wb.ownsRow w.heap.size 3 1 va n (W.map (Value.int .i64)) := by
        have q := own_len (Nat.zero_add n) hoa
        rw [List.nil_append] at q
        exact q.kept (row := none) hgb (by cases va.ownBlock <;> simp)
      have hob2 : wb.ownsRow w.heap.size 3 1 vb n (W.map (Value.int .i64)) := by
        have q := own_len (Nat.zero_add n) hob
        rwa [List.nil_append] at q
      have hoW2 : wb.ownsRow w.heap.size 3 1 (.slice A3 n c3) n (W.map (Value.int .i64)) := hoW.kept (row := none) hgb (by cases A3 <;> simp [Value.ownBlock])
      have hDb := apart_new hoW hvb
      have hDa := apart_new hoa hvb
      have hBb := hBa.trans (below_app (Nat.le_refl _) hBa.size (World.ownsRow_nil _ w.heap.size 3 1) hgb)
      clear hoa hob hoW ho hga hgb hva hvb hBa hB1 q1
      obtain ⟨FB, hFB1, hFB2⟩ : ∃ F : Nat → Int → Int, (∀ j z, j < good.length → good.getD j false = true → F j z = z) ∧ (∀ j z, (¬ j < good.length ∨ good.getD j false = false) → F j z = M) := by
        refine ⟨fun j z => if j < good.length ∧ good.getD j false = true then z else M, fun j z h1 h2 => if_pos ⟨h1, h2⟩, fun j z h => if_neg fun h' => ?_⟩
        rcases h with h | h
        · exact h h'.1
        · rw [h] at h'
          simp at h'
      have HF1 := Lib.hid hFB1
      have HF2 := Lib.hid hFB2
      have HDD := Lib.hid hD
      have HDA := Lib.hid hDa
      have HDB := Lib.hid hDb
      clear hFB1 hFB2 hD hDa hDb
      go_loopw [12] (fun i wr => ∃ k : Nat, k ≤ n ∧ i = .int .i64 k ∧ wr.ownsRow w.heap.size 3 1 va n ((updL (fun _ z => z + M) W k).map (Value.int .i64)) ∧ wr.ownsRow w.heap.size 3 1 vb n ((updL FB W k).map (Value.int .i64)) ∧ wr.ownsRow w.heap.size 3 1 (.slice A3 n c3) n (W.map (Value.int .i64)) ∧ Below w.heap.size w wr) (fun i _ => n - (intOf i).toNat)
      case atStart => exact ⟨0, Nat.zero_le _, rfl, by rw [updL_zero]; exact hoa2, by rw [updL_zero]; exact hob2, hoW2, hBb⟩
      case round =>
        clear hoa2 hob2 hoW2 hBb
        obtain ⟨k3, hk3, rfl, hoa, hob, hoW, hB1⟩ := hrel
        by_cases hlt : k3 < n
        · have hkW : k3 < W.length := by have := HWN.out; omega
          have z1 := HWB.out (W.getD k3 0) (getD_mem hkW)
          have rowcell : ∀ (f : Nat → Int → Int), ((updL f W k3).map (Value.int .i64))[k3]? = some (.int .i64 (W.getD k3 0)) := fun f => by
            rw [List.getElem?_map, List.getElem?_eq_getElem (by rw [updL_len]; exact hkW)]
            have := updL_getD f W k3 k3 hkW
            rw [if_neg (by omega), List.getD_eq_getElem?_getD, List.getElem?_eq_getElem (by rw [updL_len]; exact hkW)] at this
            simp only [Option.getD_some] at this
            rw [this]
            rfl
          obtain ⟨z, hz⟩ : ∃ z, W.getD k3 0 = z := ⟨_, rfl⟩
          rw [hz] at z1 rowcell
          obtain ⟨ga, capa, hva, -, -⟩ := hoa.form (by omega)
          obtain ⟨gb, capb, hvb, -, -⟩ := hob.form (by omega)
          subst hva hvb
          have ca : wr.cell? ⟨ga, k3, none⟩ = some (.int .i64 z) := by rw [hoa.cellAt k3 (by omega)]; exact rowcell _
          have fa := hoa.frozenAt k3
          have hga := (hoa.lt ga rfl).1
          have hgb := (hob.lt gb rfl).1
          have j0 : (0 : Int) ≤ (k3 : Int) := by omega
          have j1 : (k3 : Int) < (n : Int) := by omega
          have hq : wrap64 (z + M) = z + M := by unfold wrap64; omega
          obtain ⟨V, hV⟩ : ∃ V, Value.int .i64 (wrap64 (z + M)) = V := ⟨_, rfl⟩
          have sa := (hoa.stored k3 V).1
          have ga2 := (hoa.stored k3 V).2
          have hob' := own_kept2 hob ga2 (apart_sym HDA.out)
          have hoW' := own_kept2 hoW ga2 HDD.out
          have hB2 := hB1.setCell (p := ⟨ga, k3, none⟩) hga V
          have sa2 : (wr.setCell ⟨ga, k3, none⟩ V).ownsRow w.heap.size 3 1 (.slice (some ⟨ga, 0, none⟩) n capa) n ((updL (fun _ z => z + M) W (k3 + 1)).map (Value.int .i64)) := by
            rw [← updL_set _ _ _ hkW, List.map_set, hz, ← hq, hV]
            exact sa
          have cb : (wr.setCell ⟨ga, k3, none⟩ V).cell? ⟨gb, k3, none⟩ = some (.int .i64 z) := by rw [hob'.cellAt k3 (by omega)]; exact rowcell _
          have fb := hob'.frozenAt k3
          have sb := (hob'.stored k3 (.int .i64 M)).1
          have gb2 := (hob'.stored k3 (.int .i64 M)).2
          have sa3 := own_kept2 sa2 gb2 HDA.out
          have hoW3 := own_kept2 hoW' gb2 HDB.out
          have hB3 := hB2.setCell (p := ⟨gb, k3, none⟩) hgb (.int .i64 M)
          by_cases hkg : k3 < good.length
          · obtain ⟨gd, hgd⟩ : ∃ b, good.getD k3 false = b := ⟨_, rfl⟩
            have p1 : ¬ (good.length : Int) ≤ (k3 : Int) := by omega
            have p2 : (k3 : Int) < (good.length : Int) := by omega
            obtain ⟨b2, o2, hA2, hb2, q2⟩ := Sl.at_ h2 (by simp; omega)
            subst hA2
            have cg : (wr.setCell ⟨ga, k3, none⟩ V).cell? ⟨b2, o2 + k3, none⟩ = some (.bool gd) := (hB2.cell (p := ⟨b2, o2 + k3, none⟩) hb2).trans (q2 k3 _ (by rw [← hgd]; simp [hkg]))
            cases gd
            · have sb2 : ((wr.setCell ⟨ga, k3, none⟩ V).setCell ⟨gb, k3, none⟩ (.int .i64 M)).ownsRow w.heap.size 3 1 (.slice (some ⟨gb, 0, none⟩) n capb) n ((updL FB W (k3 + 1)).map (Value.int .i64)) := by
                rw [← updL_set _ _ _ hkW, List.map_set, HF2.out k3 _ (Or.inr hgd)]
                exact sb
              have HZ := Lib.hid (And.intro sa3 (And.intro sb2 (And.intro hoW3 hB3)))
              subst hV
              clear sa ga2 hob' hoW' hB2 sa2 sb gb2 sa3 hoW3 hB3 sb2 hz z1 rowcell hq HF1 HF2 hkW hgd
              go_wp2
              go_roundw
              case rel => exact ⟨k3 + 1, by omega, by go_num, HZ.out.1, HZ.out.2.1, HZ.out.2.2.1, HZ.out.2.2.2⟩
              case measure => simp [intOf]; omega
            · have sb2 : (wr.setCell ⟨ga, k3, none⟩ V).ownsRow w.heap.size 3 1 (.slice (some ⟨gb, 0, none⟩) n capb) n ((updL FB W (k3 + 1)).map (Value.int .i64)) := by
                rw [← updL_set _ _ _ hkW, List.map_set, HF1.out k3 _ hkg hgd, hz]
                have : ((updL FB W k3).map (Value.int .i64)).set k3 (.int .i64 z) = (updL FB W k3).map (Value.int .i64) := by
                  refine List.ext_getElem? fun j => ?_
                  rw [List.getElem?_set]
                  split
                  · subst_vars
                    rw [if_pos (by simp [updL_len]; exact hkW), rowcell]
                  · rfl
                rw [this]
                exact hob'
              have HZ := Lib.hid (And.intro sa2 (And.intro sb2 (And.intro hoW' hB2)))
              subst hV
              clear sa ga2 hob' hoW' hB2 sa2 sb gb2 sa3 hoW3 hB3 sb2 hz z1 rowcell hq HF1 HF2 hkW hgd
              go_wp2
              go_roundw
              case rel => exact ⟨k3 + 1, by omega, by go_num, HZ.out.1, HZ.out.2.1, HZ.out.2.2.1, HZ.out.2.2.2⟩
              case measure => simp [intOf]; omega
          · have p1 : (good.length : Int) ≤ (k3 : Int) := by omega
            have sb2 : ((wr.setCell ⟨ga, k3, none⟩ V).setCell ⟨gb, k3, none⟩ (.int .i64 M)).ownsRow w.heap.size 3 1 (.slice (some ⟨gb, 0, none⟩) n capb) n ((updL FB W (k3 + 1)).map (Value.int .i64)) := by
              rw [← updL_set _ _ _ hkW, List.map_set, HF2.out k3 _ (Or.inl hkg)]
              exact sb
            have HZ := Lib.hid (And.intro sa3 (And.intro sb2 (And.intro hoW3 hB3)))
            subst hV
            clear sa ga2 hob' hoW' hB2 sa2 sb gb2 sa3 hoW3 hB3 sb2 hz z1 rowcell hq HF1 HF2 hkW
            go_wp2
            go_roundw
            case rel => exact ⟨k3 + 1, by omega, by go_num, HZ.out.1, HZ.out.2.1, HZ.out.2.2.1, HZ.out.2.2.2⟩
            case measure => simp [intOf]; omega
        · have hkn : k3 = n := by omega
          have q3 : ¬ (k3 : Int) < (n : Int) := by omega
          obtain ⟨AA, ca, rfl, -, -, -, SA⟩ := own_sliceI hoa
          obtain ⟨AB, cb, rfl, -, -, -, SB⟩ := own_sliceI hob
          obtain ⟨A3', c3', hA3, -, -, -, SW⟩ := own_sliceI hoW
          cases hA3
          have SG := h2.next hB1
          obtain ⟨YA, hYA⟩ : ∃ Y, updL (fun _ z => z + M) W k3 = Y := ⟨_, rfl⟩
          obtain ⟨YB, hYB⟩ : ∃ Y, updL FB W k3 = Y := ⟨_, rfl⟩
          rw [hYA] at SA
          rw [hYB] at SB
          have lYA : YA.length = n := by rw [← hYA, updL_len]; exact HWN.out
          have lYB : YB.length = n := by rw [← hYB, updL_len]; exact HWN.out
          have vW : ∀ j, j < n → 0 ≤ W.getD j 0 ∧ W.getD j 0 ≤ 536870912 := fun j hj => HWB.out _ (getD_mem (by have := HWN.out; omega))
          have vA : ∀ j, j < n → YA.getD j 0 = W.getD j 0 + M := fun j hj => by
            rw [← hYA, updL_getD _ _ _ _ (by have := HWN.out; omega), if_pos (by omega)]
          have vB : ∀ j, j < n → YB.getD j 0 = FB j (W.getD j 0) := fun j hj => by
            rw [← hYB, updL_getD _ _ _ _ (by have := HWN.out; omega), if_pos (by omega)]
          have mem_at : ∀ (Y : List Int), Y.length = n → ∀ z ∈ Y, ∃ j, j < n ∧ z = Y.getD j 0 := fun Y hY z hz => by
            obtain ⟨j, hj, rfl⟩ := List.getElem_of_mem hz
            exact ⟨j, by omega, by rw [List.getD_eq_getElem?_getD, List.getElem?_eq_getElem hj]; rfl⟩
          have bA : ∀ z ∈ YA, 0 ≤ z ∧ z ≤ 2147483648 := fun z hz => by
            obtain ⟨j, hj, rfl⟩ := mem_at YA lYA z hz
            rw [vA j hj]
            have := vW j hj
            omega
          have bB : ∀ z ∈ YB, 0 ≤ z ∧ z ≤ 2147483648 := fun z hz => by
            obtain ⟨j, hj, rfl⟩ := mem_at YB lYB z hz
            rw [vB j hj]
            by_cases hc : j < good.length ∧ good.getD j false = true
            · rw [HF1.out j _ hc.1 hc.2]
              have := vW j hj
              omega
            · rw [HF2.out j _ (out_of hc)]
              omega
          have bW : ∀ z ∈ W, 0 ≤ z ∧ z ≤ 2147483648 := fun z hz => by have := HWB.out z hz; omega
          have mlt : ∀ x, x < mlen W good → x < n ∧ x < good.length := fun x hx => by
            unfold mlen at hx
            have := HWN.out
            omega
          obtain ⟨eA1, eA2, eA3⟩ := same_all (ws := W) (ys := YA) (good := good) (M := M) (by rw [lYA]; exact HWN.out) fun x hx _ => vA x (mlt x hx).1
          obtain ⟨eB1, eB2, eB3⟩ := same_all (ws := W) (ys := YB) (good := good) (M := 0) (by rw [lYB]; exact HWN.out) fun x hx hg => by rw [vB x (mlt x hx).1, HF1.out x _ (mlt x hx).2 hg]; omega
          obtain ⟨S, hS⟩ : ∃ S, spreadI W good = S := ⟨_, rfl⟩
          obtain ⟨P, hP⟩ : ∃ S, leastI W good = S := ⟨_, rfl⟩
          obtain ⟨Q, hQ⟩ : ∃ S, mostI W good = S := ⟨_, rfl⟩
          have F : Hid (W.length = n ∧ YA.length = n ∧ YB.length = n ∧ (∀ z ∈ W, 0 ≤ z ∧ z ≤ 2147483648) ∧ (∀ z ∈ YA, 0 ≤ z ∧ z ≤ 2147483648) ∧ (∀ z ∈ YB, 0 ≤ z ∧ z ≤ 2147483648)) := Lib.hid ⟨HWN.out, lYA, lYB, bW, bA, bB⟩
          have FS : Hid (Value.int .i64 (spreadI W good) = .int .i64 S ∧ Value.int .i64 (spreadI YA good) = .int .i64 S ∧ Value.int .i64 (spreadI YB good) = .int .i64 S) := Lib.hid ⟨by rw [hS], by rw [eA3, hS], by rw [eB3, hS]⟩
          have FL : Hid (Value.int .i64 (leastI W good) = .int .i64 P ∧ Value.int .i64 (leastI YA good) = .int .i64 P ∧ Value.int .i64 (leastI YB good) = .int .i64 P) := Lib.hid ⟨by rw [hP], by rw [eA1, hP], by rw [eB1, hP]⟩
          have FM : Hid (Value.int .i64 (mostI W good) = .int .i64 Q ∧ Value.int .i64 (mostI YA good) = .int .i64 Q ∧ Value.int .i64 (mostI YB good) = .int .i64 Q) := Lib.hid ⟨by rw [hQ], by rw [eA2, hQ], by rw [eB2, hQ]⟩
          have FD : Hid (Value.bool (decide (which < spreadI W good)) = .bool (decide (which < S))) := Lib.hid (by rw [hS])
          have nn : n ≤ 1000000 := by omega
          obtain ⟨wo3, hwo⟩ : ∃ wo3 : World, wo3 = wr := ⟨_, rfl⟩
          subst hwo
          have hZ : Below wo3.heap.size wo3 wo3 := Below.refl _ _
          obtain ⟨d, hd⟩ : ∃ d, decide (which < S) = d := ⟨_, rfl⟩
          rw [hd] at FD
          have q4 : (which < S) = (d = true) := by rw [← hd]; simp
          clear hS hP hQ eA1 eA2 eA3 eB1 eB2 eB3 bA bB bW vA vB vW mem_at mlt lYA lYB hYA hYB HF1 HF2 hoa hob hoW HDD HDA HDB hkn hd
          go_wp2_with (first
            | (go_at_call 8; with_reducible refine (Spread_n _ W n F.out.1 good A3 A2 c3 c2 FS.out.1 _ (SW.next hZ) (SG.next hZ) nn n2 F.out.2.2.2.1).mono ?_; rintro e' w' ⟨rfl, hb⟩; replace hZ := btr hZ hZ.size hb; clear hb)
            | (go_at_call 8; with_reducible refine (Spread_n _ YA n F.out.2.1 good AA A2 ca c2 FS.out.2.1 _ (SA.next hZ) (SG.next hZ) nn n2 F.out.2.2.2.2.1).mono ?_; rintro e' w' ⟨rfl, hb⟩; replace hZ := btr hZ hZ.size hb; clear hb)
            | (go_at_call 8; with_reducible refine (Spread_n _ YB n F.out.2.2.1 good AB A2 cb c2 FS.out.2.2 _ (SB.next hZ) (SG.next hZ) nn n2 F.out.2.2.2.2.2).mono ?_; rintro e' w' ⟨rfl, hb⟩; replace hZ := btr hZ hZ.size hb; clear hb)
            | (go_at_call 10; with_reducible refine (Least_n _ W n F.out.1 good A3 A2 c3 c2 FL.out.1 _ (SW.next hZ) (SG.next hZ) nn n2 F.out.2.2.2.1).mono ?_; rintro e' w' ⟨rfl, hb⟩; replace hZ := btr hZ hZ.size hb; clear hb)
            | (go_at_call 10; with_reducible refine (Least_n _ YA n F.out.2.1 good AA A2 ca c2 FL.out.2.1 _ (SA.next hZ) (SG.next hZ) nn n2 F.out.2.2.2.2.1).mono ?_; rintro e' w' ⟨rfl, hb⟩; replace hZ := btr hZ hZ.size hb; clear hb)
            | (go_at_call 10; with_reducible refine (Least_n _ YB n F.out.2.2.1 good AB A2 cb c2 FL.out.2.2 _ (SB.next hZ) (SG.next hZ) nn n2 F.out.2.2.2.2.2).mono ?_; rintro e' w' ⟨rfl, hb⟩; replace hZ := btr hZ hZ.size hb; clear hb)
            | (go_at_call 12; with_reducible refine (Most_n _ W n F.out.1 good A3 A2 c3 c2 FM.out.1 _ (SW.next hZ) (SG.next hZ) nn n2 F.out.2.2.2.1).mono ?_; rintro e' w' ⟨rfl, hb⟩; replace hZ := btr hZ hZ.size hb; clear hb)
            | (go_at_call 12; with_reducible refine (Most_n _ YA n F.out.2.1 good AA A2 ca c2 FM.out.2.1 _ (SA.next hZ) (SG.next hZ) nn n2 F.out.2.2.2.2.1).mono ?_; rintro e' w' ⟨rfl, hb⟩; replace hZ := btr hZ hZ.size hb; clear hb)
            | (go_at_call 12; with_reducible refine (Most_n _ YB n F.out.2.2.1 good AB A2 cb c2 FM.out.2.2 _ (SB.next hZ) (SG.next hZ) nn n2 F.out.2.2.2.2.2).mono ?_; rintro e' w' ⟨rfl, hb⟩; replace hZ := btr hZ hZ.size hb; clear hb)
            | (go_at_call 14; with_reducible refine (Due_n _ W n F.out.1 good A3 A2 c3 c2 which FD.out _ (SW.next hZ) (SG.next hZ) nn n2 F.out.2.2.2.1).mono ?_; rintro e' w' ⟨rfl, hb⟩; replace hZ := btr hZ hZ.size hb; clear hb)
            | (go_at_call 6; refine (awake_any _).mono ?_; rintro e' w' ⟨rfl, hb⟩; replace hZ := btr hZ hZ.size hb; clear hb))
          go_ret
          exact ⟨by simp, btr hB1 hB1.size hZ⟩
end Go.Proofs.Ytlingchcfdielaa
