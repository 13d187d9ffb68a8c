/- RankCopies: the walk. -/
import Derived.Test.YtofeijlejljbdaaRkH
namespace Go.Proofs.Ytofeijlejljbdaa
open Go.ChangeShapes Go.WideShapes Go.ChangeAt Go.RowKit
set_option linter.unusedSimpArgs false
set_option linter.unusedVariables false

def upF (x : Fd) (top : Int) : Fd := { x with s := top + 1 }
def upB (x : Fd) (block top : Int) : Fd := { x with b := block, s := top + 1 }
theorem upF_ok {x : Fd} {top : Int} (h : FdOk x) (h1 : 0 ≤ top) (h2 : top ≤ 4294967295) : FdOk (upF x top) := by
  obtain ⟨a, b, c, d, e, f⟩ := h
  exact ⟨a, b, c, d, by show i64in (top + 1); unfold i64in; omega, f⟩
theorem upB_ok {x : Fd} {block top : Int} (h : FdOk x) (hb : i64in block) (h1 : 0 ≤ top) (h2 : top ≤ 4294967295) : FdOk (upB x block top) := by
  obtain ⟨a, b, c, d, e, f⟩ := h
  exact ⟨hb, b, c, d, by show i64in (top + 1); unfold i64in; omega, f⟩
theorem TopOk.lt2 {S : List Fd} {top : Int} (h : TopOk S top) (x : Fd) (block : Int) : ∀ y ∈ S, y.s < (upB x block top).s := by
  intro y hy
  have := (h.2.2 y hy).2
  show y.s < top + 1
  omega
theorem low_idx (x : Int) (n : Nat) (hn : 0 < n) : ∃ i : Nat, lowI x (n : Int) = (i : Int) ∧ i < n := by
  have h := lowI_bd x n (by omega)
  exact ⟨(lowI x n).toNat, by omega, by omega⟩
theorem low_at (x : Int) (n i : Nat) (w : World) (hn : 0 < n) (hm : n ≤ 1000000) (hi : lowI x (n : Int) = (i : Int)) : Calls Try.prog 10 #[.int .i64 x, .int .i64 (n : Int)] w fun e' w' => e' = .returned (.int .i64 (i : Int)) ∧ w = w' := by
  rw [← hi]
  exact low_any x n w (by omega) (by omega)
set_option maxRecDepth 100000 in
set_option maxHeartbeats 4000000 in
theorem rankCopies_walk (A : Option Addr) (n c : Nat) (es : List (List Value)) (which block : Int) (wc : World) (h : n = es.length ∧ n ≤ c ∧ c ≤ maxLen ∧ SlE 6 wc wc.heap.size A es ∧ ∀ x ∈ es, Flat [some .i64, some .i64, some .i64, some .i64, some .i64, some .i64] x) (hwh : i64in which) (hbl : i64in block) : Calls Try.prog 4 #[.slice A n c, .int .i64 which, .int .i64 block] wc fun e' w' => e' = .returned (.bool true) ∧ Below wc.heap.size wc w' := by
  obtain ⟨hn, hnc, hcm, hs, hf⟩ := h
  obtain ⟨fs, rfl, hok⟩ := fds_of_flats es hf
  rw [List.length_map] at hn
  subst hn
  have hF : SlFd wc wc.heap.size A fs := hs
  clear hs hf
  have hB : Below wc.heap.size wc wc := Below.refl _ _
  by_cases hg : 40 < fs.length
  · have hd : decide ((40 : Int) < (fs.length : Int)) = true := decide_eq_true (by omega)
    have HD := Lib.hid hd
    clear hd hg
    go_enter Try.func4, Try.ntmps4
    go_wp2_with (first
      | (go_at_call 8; ((with_reducible refine (great_any _ _ _ _ _).mono ?_); rw [HD.out]; rintro e' w1 ⟨rfl, rfl⟩))
      | (go_at_call 9; ((with_reducible refine (awake_any _).mono ?_); rintro e' wc ⟨rfl, hb⟩)))
    go_ret
    exact ⟨rfl, hb⟩
  have hd : decide ((40 : Int) < (fs.length : Int)) = false := decide_eq_false (by omega)
  have HD := Lib.hid hd
  have n1 : fs.length ≤ 40 := by omega
  clear hd hg
  go_enter Try.func4, Try.ntmps4
  go_wp2_with (go_at_call 8; ((with_reducible refine (great_any _ _ _ _ _).mono ?_); rw [HD.out]; rintro e' w1 ⟨rfl, rfl⟩))
  go_loopw [7, 8] (fun st si wr => ∃ (k : Nat) (top : Int), k ≤ fs.length ∧ si = .int .i64 (k : Int) ∧ st = .int .i64 top ∧ Hid (TopOk (fs.take k) top) ∧ Below wc.heap.size wc wr) (fun _ si _ => fs.length - (iOf si).toNat)
  case atStart => exact ⟨0, 0, Nat.zero_le _, rfl, rfl, Lib.hid TopOk.nil_, Below.refl _ _⟩
  case round =>
    obtain ⟨k, top, hk, rfl, rfl, HT, hBr⟩ := hrel
    replace hF := hF.next hBr
    have hBo := hB
    replace hB := btr hB hB.size hBr
    by_cases hlt : k < fs.length
    · obtain ⟨b1, o1, rfl, l1, q1⟩ := hF.at_ (by omega)
      obtain ⟨x, hx⟩ : ∃ x, fs[k]? = some x := ⟨_, List.getElem?_eq_getElem hlt⟩
      obtain ⟨x0, x1, x2, x3, x4, x5⟩ := q1 k x hx
      have hsz := hB.size
      have l1' : b1 < wr.heap.size := by omega
      have i0 : (0 : Int) ≤ (k : Int) := by omega
      have i1 : (k : Int) < (fs.length : Int) := by omega
      have hst := take_next hx
      have ht1 := HT.out.1
      have ht2 := HT.out.2.1
      clear q1 hx
      by_cases s1 : x.s < 0
      · clear hst HT
        go_wp2_with (go_at_call 9; ((with_reducible refine (awake_any _).mono ?_); rintro e' wc ⟨rfl, hb⟩))
        go_ret
        exact ⟨rfl, btr hB hB.size hb⟩
      · by_cases s2 : 4294967295 < x.s
        · clear hst HT
          go_wp2_with (go_at_call 9; ((with_reducible refine (awake_any _).mono ?_); rintro e' wc ⟨rfl, hb⟩))
          go_ret
          exact ⟨rfl, btr hB hB.size hb⟩
        · rcases (by omega : top < x.s ∨ x.s ≤ top) with hm | hm
          · have HT2 : Hid (TopOk (fs.take (k + 1)) x.s) := Lib.hid (by rw [hst]; exact HT.out.snoc (by omega) (Int.le_refl _) (by omega) (by omega))
            clear hst HT
            go_wp2
            all_goals
              go_roundw
              case rel => exact ⟨k + 1, x.s, by omega, by go_num, (by first | rfl | (simp; omega)), HT2, hBr⟩
              case measure => simp [iOf]; omega
          · have HT2 : Hid (TopOk (fs.take (k + 1)) top) := Lib.hid (by rw [hst]; exact HT.out.snoc (by omega) hm (Int.le_refl _) ht2)
            clear hst HT
            go_wp2
            all_goals
              go_roundw
              case rel => exact ⟨k + 1, top, by omega, by go_num, (by first | rfl | (simp; omega)), HT2, hBr⟩
              case measure => simp [iOf]; omega
    · have HTF : Hid (TopOk fs top) := Lib.hid (by have := HT.out; rwa [List.take_of_length_le (by omega)] at this)
      clear HT
      have ht1 := HTF.out.1
      have ht2 := HTF.out.2.1
      have HAL := Lib.hid hok
      clear HD
      go_upto_if 55 with (first
        | (go_at_call 11; ((with_reducible refine (all_n fs _ A c _ rfl hF (by omega) HAL.out).mono ?_); rintro e' wc ⟨⟨Aa, ca, La, rfl, HLa, hA, -⟩, hb⟩; replace hF := hF.next hb; (try replace hA := hA.next hb); (try replace hS := hS.next hb); (try replace hR := hR.next hb); replace hB := btr hB hB.size hb; clear hb))
        | (go_at_call 14; ((with_reducible refine (stale_n fs _ A c _ rfl hF (by omega)).mono ?_); rintro e' wc ⟨⟨As, cs, Ls, rfl, HLs, hS⟩, hb⟩; replace hF := hF.next hb; (try replace hA := hA.next hb); (try replace hS := hS.next hb); (try replace hR := hR.next hb); replace hB := btr hB hB.size hb; clear hb)))
      have hla := HLa.out.2.1
      have hca := HLa.out.2.2.1
      have hcs := HLs.out.2.1
      have hls : Ls.length ≤ 40 := by rw [← HLs.out.1]; exact Nat.le_trans (List.length_filter_le _ _) (by omega)
      go_cut [] (fun wx => Below wc.heap.size wc wx)
      case first =>
        by_cases hs0 : 0 < Ls.length
        · obtain ⟨i, hi, hil⟩ := low_idx which Ls.length hs0
          obtain ⟨x, hx⟩ : ∃ x, Ls[i]? = some x := ⟨_, List.getElem?_eq_getElem hil⟩
          obtain ⟨b1, o1, rfl, l1, q1⟩ := hS.at_ hs0
          obtain ⟨x0, x1, x2, x3, x4, x5⟩ := q1 i x hx
          have hxm : x ∈ fs ∧ lastZ fs < x.e := by
            have h := List.mem_of_getElem? hx
            rw [← HLs.out.1] at h
            unfold staleZ at h
            obtain ⟨h1, h2⟩ := List.mem_filter.1 h
            exact ⟨h1, of_decide_eq_true h2⟩
          have HXM := Lib.hid hxm
          have HI := Lib.hid hi
          have i0 : (0 : Int) ≤ (i : Int) := by omega
          have i1 : (i : Int) < (Ls.length : Int) := by omega
          clear q1 hi hx hxm
          go_upto_region 13 with (go_at_call 10; ((with_reducible refine (low_at which Ls.length i _ hs0 (by omega) HI.out).mono ?_); rintro e' w1 ⟨rfl, rfl⟩))
          clear x0 x1 x2 x3 x4 x5
          by_cases k3 : x.k = 3
          · have k3b : (x.k == 3) = true := by simpa using k3
            clear k3
            go_wp2_with fail
            go_meet
            exact (Below.refl _ _).alloc (Nat.le_refl _) _
          · have k3b : (x.k == 3) = false := by simpa using k3
            have HAI : Hid (∀ L', IsAll (fs ++ [upF x top]) L' → L' = La) := Lib.hid (fun L' hL' => (copies_stale HLa.out.1 hL' k3 HXM.out.2).symm)
            have HOK : Hid (∀ z ∈ fs ++ [upF x top], FdOk z) := Lib.hid (ok_snoc HAL.out (upF_ok (HAL.out x HXM.out.1) ht1 ht2))
            clear k3
            go_upto_region 15 with fail
            have hBX : Below wc.heap.size wc (wc.alloc (.cells #[.int .i64 x.b, .int .i64 x.g, .int .i64 x.k, .int .i64 x.p, .int .i64 (top + 1), .int .i64 x.e] 30)) := (Below.refl _ _).alloc (Nat.le_refl _) _
            have hX : Blk (wc.alloc (.cells #[.int .i64 x.b, .int .i64 x.g, .int .i64 x.k, .int .i64 x.p, .int .i64 (top + 1), .int .i64 x.e] 30)) wc.heap.size 30 #[.int .i64 x.b, .int .i64 x.g, .int .i64 x.k, .int .i64 x.p, .int .i64 (top + 1), .int .i64 x.e] := Blk.new_ _ _ _
            have hbX : Below wc.heap.size wc (wc.alloc (.cells #[.int .i64 x.b, .int .i64 x.g, .int .i64 x.k, .int .i64 x.p, .int .i64 (top + 1), .int .i64 x.e] 30)) := (Below.refl _ _).alloc (Nat.le_refl _) _
            replace hF := hF.next hbX
            replace hA := hA.next hbX
            replace hB := btr hB hB.size hbX
            obtain ⟨gx, hgx⟩ : ∃ g, wc.heap.size = g := ⟨_, rfl⟩
            rw [hgx] at hX
            (try rw [hgx])
            clear hbX
            generalize wc.alloc (.cells #[.int .i64 x.b, .int .i64 x.g, .int .i64 x.k, .int .i64 x.p, .int .i64 (top + 1), .int .i64 x.e] 30) = we at hX hF hA hB hBX ⊢
            clear hgx
            have hgl := hX.lt
            have hX6 : we.cell? ⟨gx, 0, none⟩ = some (.int .i64 (upF x top).b) ∧ we.cell? ⟨gx, 1, none⟩ = some (.int .i64 (upF x top).g) ∧ we.cell? ⟨gx, 2, none⟩ = some (.int .i64 (upF x top).k) ∧ we.cell? ⟨gx, 3, none⟩ = some (.int .i64 (upF x top).p) ∧ we.cell? ⟨gx, 4, none⟩ = some (.int .i64 (upF x top).s) ∧ we.cell? ⟨gx, 5, none⟩ = some (.int .i64 (upF x top).e) := ⟨hX.cell_ 0, hX.cell_ 1, hX.cell_ 2, hX.cell_ 3, hX.cell_ 4, hX.cell_ 5⟩
            have HBn : Below we.heap.size we we.drew := (Below.refl _ _).drew
            refine wp_region_noPanic ?_
            refine wp_region_held_drew (S := (fun w' => Below we.heap.size we w' ∧ w'.cell? ⟨gx, 0, none⟩ = some (.int .i64 (upF x top).b) ∧ w'.cell? ⟨gx, 1, none⟩ = some (.int .i64 (upF x top).g) ∧ w'.cell? ⟨gx, 2, none⟩ = some (.int .i64 (upF x top).k) ∧ w'.cell? ⟨gx, 3, none⟩ = some (.int .i64 (upF x top).p) ∧ w'.cell? ⟨gx, 4, none⟩ = some (.int .i64 (upF x top).s) ∧ w'.cell? ⟨gx, 5, none⟩ = some (.int .i64 (upF x top).e))) (by kernel_rfl) ?_ (fun hHeld => ?_)
            · (first | exact keep6 hX6 hgl HBn | assumption)
            refine wpAnyH_take (i := 0) (oi := { dst := some 71, op := Op.move (Operand.tmp 0), type := 22, pos := "law.go:83", after := #[], guard := none }) (v := ?_) rfl (by kernel_rfl) (by kernel_rfl) (by kernel_rfl) (fun _ _ _ h => h) (Or.inl ⟨by rfl, ?_⟩) (by assumption) ?_
            rotate_left
            · (intro wS hSw; (try dsimp only at hSw); go_simp; (try with_reducible rfl))
            try simp only [Act.put, List.setIfInBounds_toArray, List.set_cons_zero, List.set_cons_succ]
            refine wpAnyH_take (i := 2) (oi := { dst := some 73, op := Op.load 30 (Operand.tmp 11), type := 30, pos := "law.go:83", after := #[], guard := none }) (v := ?_) rfl (by kernel_rfl) (by kernel_rfl) (by kernel_rfl) (fun _ _ _ h => h) (Or.inl ⟨by rfl, ?_⟩) (by assumption) ?_
            rotate_left
            · (intro wS hSw; (try dsimp only at hSw); go_simp; (try with_reducible rfl))
            try simp only [Act.put, List.setIfInBounds_toArray, List.set_cons_zero, List.set_cons_succ]
            refine wpAnyH_take (i := 6) (oi := { dst := some 77, op := Op.move (Operand.tmp 9), type := 22, pos := "law.go:83", after := #[], guard := none }) (v := ?_) rfl (by kernel_rfl) (by kernel_rfl) (by kernel_rfl) (fun _ _ _ h => h) (Or.inl ⟨by rfl, ?_⟩) (by assumption) ?_
            rotate_left
            · (intro wS hSw; (try dsimp only at hSw); go_simp; (try with_reducible rfl))
            try simp only [Act.put, List.setIfInBounds_toArray, List.set_cons_zero, List.set_cons_succ]
            refine wpAnyH_ready (rs := [1, 3]) (by kernel_rfl) (by simp) ?_
            refine (AllReadyH.cons (o := { dst := some 72, op := Op.call { callee := Callee.builtin Builtin.append, args := #[Operand.const (Value.slice none 0 0), Operand.tmp 71], argTypes := #[22, 22] }, type := 22, pos := "law.go:83", after := #[{ on := 0, ground := Ground.data }], guard := none }) rfl (fun K hK => ?_) (AllReadyH.cons (o := { dst := some 74, op := Op.buildSlice 22 1 #[(0, Operand.tmp 73)], type := 22, pos := "law.go:83", after := #[{ on := 2, ground := Ground.data }], guard := none }) rfl (fun K hK => ?_) AllReadyH.nil))
            · obtain ⟨ti0, hi, hz0, hz1, hz2⟩ := info_parts infoFd
              refine step_app _ rfl (.const (.slice none 0 0)) (.tmp 71) _ rfl we.heap.size 30 ti0 _ 6 48 Try.underlying22 hi hz0 hz1 hz2 rfl (by decide) (.slice none 0 0) 0 [] rfl (World.ownsRow_nil _ _ _ _) _ fs.length _ (fs.flatMap fCs) rfl (rd_sl (hF.below HBn) rfl) (flat_one fs) (by unfold maxLen; omega) (by omega) HBn.size ?_
              intro v1 wk ho1 hg1 hv1
              clear hi hz0 hz1 hz2 hv1
              have hro := row_first rfl ho1
              (try replace hbk := blk_below hbk (below_grown hg1))
              replace HBn := btr HBn HBn.size (below_grown hg1)
              clear ho1 hg1
              refine hK.out _ _ ?_ (fun hNew => ?_)
              · (first | exact keep6 hX6 hgl HBn | assumption)
              clear hK K hHeld
              have hHeld := hNew
              clear hNew
              try simp only [Act.put, List.setIfInBounds_toArray, List.set_cons_zero, List.set_cons_succ]
              refine wpAnyH_ready (rs := [3]) (by kernel_rfl) (by simp) ?_
              refine AllReadyH.cons (o := { dst := some 74, op := Op.buildSlice 22 1 #[(0, Operand.tmp 73)], type := 22, pos := "law.go:83", after := #[{ on := 2, ground := Ground.data }], guard := none }) rfl (fun K hK => ?_) AllReadyH.nil
              refine step_buildF rfl (.tmp 73) rfl (upF x top) rfl ?_
              intro wk gb hbk hgb hbB
              (try replace hro := hro.below hbB)
              replace HBn := btr HBn HBn.size hbB
              clear hbB
              refine hK.out _ _ ?_ (fun hNew => ?_)
              · (first | exact keep6 hX6 hgl HBn | assumption)
              clear hK K hHeld
              have hHeld := hNew
              clear hNew
              try simp only [Act.put, List.setIfInBounds_toArray, List.set_cons_zero, List.set_cons_succ]
              refine wpAnyH_ready (rs := [4]) (by kernel_rfl) (by simp) ?_
              refine AllReadyH.cons (o := { dst := some 75, op := Op.call { callee := Callee.builtin Builtin.append, args := #[Operand.tmp 72, Operand.tmp 74], argTypes := #[22, 22] }, type := 22, pos := "law.go:83", after := #[{ on := 1, ground := Ground.data }, { on := 3, ground := Ground.data }, { on := 1, ground := Ground.chain }], guard := none }) rfl (fun K hK => ?_) AllReadyH.nil
              obtain ⟨ti0, hi, hz0, hz1, hz2⟩ := info_parts infoFd
              refine step_app _ rfl (.tmp 72) (.tmp 74) _ rfl we.heap.size 30 ti0 _ 6 48 Try.underlying22 hi hz0 hz1 hz2 rfl (by decide) v1 fs.length (fs.flatMap fCs) rfl hro _ 1 _ (fCs (upF x top)) rfl (rd_blk hbk) (flat_one1 _) (by unfold maxLen; omega) (by omega) HBn.size ?_
              intro v2 wk ho2 hg2 hv2
              clear hi hz0 hz1 hz2 hv2
              obtain ⟨HB2, A2, c2, rfl, HA2, hc2, hm2⟩ := chain_app0 rfl HBn hro ho2 hg2
              replace HBn := HB2
              clear ho2 hg2 hro hbk HB2
              refine hK.out _ _ ?_ (fun hNew => ?_)
              · (first | exact keep6 hX6 hgl HBn | assumption)
              clear hK K hHeld
              have hHeld := hNew
              clear hNew
              try simp only [Act.put, List.setIfInBounds_toArray, List.set_cons_zero, List.set_cons_succ]
              refine wpAnyH_ready (rs := [5]) (by kernel_rfl) (by simp) ?_
              refine AllReadyH.cons (o := { dst := some 76, op := Op.call { callee := Callee.value (Operand.func 11), args := #[Operand.tmp 75], argTypes := #[22] }, type := 22, pos := "law.go:83", after := #[{ on := 4, ground := Ground.data }, { on := 4, ground := Ground.chain }], guard := none }) rfl (fun K hK => ?_) AllReadyH.nil
              go_simp
              (first
                  | (go_at_call 11; ((with_reducible refine (all_is (fs ++ [(upF x top)]) (fs.length + 1) A2 c2 La La.length _ (snoc_len rfl) HA2 (by omega) HOK.out HAI.out rfl).mono ?_); rintro e' wk ⟨⟨Az, cz, rfl, HZ, hZ, hZr⟩, hb⟩; replace HBn := btr HBn HBn.size hb; clear HA2 hb hZr))
                  | (go_at_call 13; ((with_reducible refine (same_yes La Az Aa La.length cz ca _ rfl (by omega) hZ (hA.next HBn)).mono ?_); rintro e' wk ⟨rfl, hb⟩; replace HBn := btr HBn HBn.size hb; clear hZ hb)))
              go_wp2_with fail
              refine hK.out _ _ ?_ (fun hNew => ?_)
              · (first | exact keep6 hX6 hgl HBn | assumption)
              clear hK K hHeld
              have hHeld := hNew
              clear hNew
              try simp only [Act.put, List.setIfInBounds_toArray, List.set_cons_zero, List.set_cons_succ]
              refine wpAnyH_ready (rs := [7]) (by kernel_rfl) (by simp) ?_
              refine AllReadyH.cons (o := { dst := some 78, op := Op.call { callee := Callee.value (Operand.func 13), args := #[Operand.tmp 76, Operand.tmp 77], argTypes := #[22, 22] }, type := 4, pos := "law.go:83", after := #[{ on := 5, ground := Ground.data }, { on := 6, ground := Ground.data }, { on := 5, ground := Ground.chain }], guard := none }) rfl (fun K hK => ?_) AllReadyH.nil
              go_simp
              (first
                  | (go_at_call 11; ((with_reducible refine (all_is (fs ++ [(upF x top)]) (fs.length + 1) A2 c2 La La.length _ (snoc_len rfl) HA2 (by omega) HOK.out HAI.out rfl).mono ?_); rintro e' wk ⟨⟨Az, cz, rfl, HZ, hZ, hZr⟩, hb⟩; replace HBn := btr HBn HBn.size hb; clear HA2 hb hZr))
                  | (go_at_call 13; ((with_reducible refine (same_yes La Az Aa La.length cz ca _ rfl (by omega) hZ (hA.next HBn)).mono ?_); rintro e' wk ⟨rfl, hb⟩; replace HBn := btr HBn HBn.size hb; clear hZ hb)))
              go_wp2_with fail
              refine hK.out _ _ ?_ (fun hNew => ?_)
              · (first | exact keep6 hX6 hgl HBn | assumption)
              clear hK K hHeld
              have hHeld := hNew
              clear hNew
              try simp only [Act.put, List.setIfInBounds_toArray, List.set_cons_zero, List.set_cons_succ]
              refine wpAnyH_take (i := 8) (oi := { dst := some 79, op := Op.unOp UnOp.not 4 (Operand.tmp 78), type := 4, pos := "law.go:83", after := #[{ on := 7, ground := Ground.data }], guard := none }) (v := ?_) rfl (by kernel_rfl) (by kernel_rfl) (by kernel_rfl) (fun _ _ _ h => h) (Or.inl ⟨by rfl, ?_⟩) (by assumption) ?_
              rotate_left
              · (intro wS hSw; (try dsimp only at hSw); go_simp; (try with_reducible rfl))
              try simp only [Act.put, List.setIfInBounds_toArray, List.set_cons_zero, List.set_cons_succ]
              refine wpAnyH_done (by kernel_rfl) ?_ _
              refine NoPanic.normal ?_
              go_wp2_with fail
              go_meet
              exact btr hBX hBX.size HBn
            · refine step_buildF rfl (.tmp 73) rfl (upF x top) rfl ?_
              intro wk gb hbk hgb hbB
              (try replace hro := hro.below hbB)
              replace HBn := btr HBn HBn.size hbB
              clear hbB
              refine hK.out _ _ ?_ (fun hNew => ?_)
              · (first | exact keep6 hX6 hgl HBn | assumption)
              clear hK K hHeld
              have hHeld := hNew
              clear hNew
              try simp only [Act.put, List.setIfInBounds_toArray, List.set_cons_zero, List.set_cons_succ]
              refine wpAnyH_ready (rs := [1]) (by kernel_rfl) (by simp) ?_
              refine AllReadyH.cons (o := { dst := some 72, op := Op.call { callee := Callee.builtin Builtin.append, args := #[Operand.const (Value.slice none 0 0), Operand.tmp 71], argTypes := #[22, 22] }, type := 22, pos := "law.go:83", after := #[{ on := 0, ground := Ground.data }], guard := none }) rfl (fun K hK => ?_) AllReadyH.nil
              obtain ⟨ti0, hi, hz0, hz1, hz2⟩ := info_parts infoFd
              refine step_app _ rfl (.const (.slice none 0 0)) (.tmp 71) _ rfl we.heap.size 30 ti0 _ 6 48 Try.underlying22 hi hz0 hz1 hz2 rfl (by decide) (.slice none 0 0) 0 [] rfl (World.ownsRow_nil _ _ _ _) _ fs.length _ (fs.flatMap fCs) rfl (rd_sl (hF.below HBn) rfl) (flat_one fs) (by unfold maxLen; omega) (by omega) HBn.size ?_
              intro v1 wk ho1 hg1 hv1
              clear hi hz0 hz1 hz2 hv1
              have hro := row_first rfl ho1
              (try replace hbk := blk_below hbk (below_grown hg1))
              replace HBn := btr HBn HBn.size (below_grown hg1)
              clear ho1 hg1
              refine hK.out _ _ ?_ (fun hNew => ?_)
              · (first | exact keep6 hX6 hgl HBn | assumption)
              clear hK K hHeld
              have hHeld := hNew
              clear hNew
              try simp only [Act.put, List.setIfInBounds_toArray, List.set_cons_zero, List.set_cons_succ]
              refine wpAnyH_ready (rs := [4]) (by kernel_rfl) (by simp) ?_
              refine AllReadyH.cons (o := { dst := some 75, op := Op.call { callee := Callee.builtin Builtin.append, args := #[Operand.tmp 72, Operand.tmp 74], argTypes := #[22, 22] }, type := 22, pos := "law.go:83", after := #[{ on := 1, ground := Ground.data }, { on := 3, ground := Ground.data }, { on := 1, ground := Ground.chain }], guard := none }) rfl (fun K hK => ?_) AllReadyH.nil
              obtain ⟨ti0, hi, hz0, hz1, hz2⟩ := info_parts infoFd
              refine step_app _ rfl (.tmp 72) (.tmp 74) _ rfl we.heap.size 30 ti0 _ 6 48 Try.underlying22 hi hz0 hz1 hz2 rfl (by decide) v1 fs.length (fs.flatMap fCs) rfl hro _ 1 _ (fCs (upF x top)) rfl (rd_blk hbk) (flat_one1 _) (by unfold maxLen; omega) (by omega) HBn.size ?_
              intro v2 wk ho2 hg2 hv2
              clear hi hz0 hz1 hz2 hv2
              obtain ⟨HB2, A2, c2, rfl, HA2, hc2, hm2⟩ := chain_app0 rfl HBn hro ho2 hg2
              replace HBn := HB2
              clear ho2 hg2 hro hbk HB2
              refine hK.out _ _ ?_ (fun hNew => ?_)
              · (first | exact keep6 hX6 hgl HBn | assumption)
              clear hK K hHeld
              have hHeld := hNew
              clear hNew
              try simp only [Act.put, List.setIfInBounds_toArray, List.set_cons_zero, List.set_cons_succ]
              refine wpAnyH_ready (rs := [5]) (by kernel_rfl) (by simp) ?_
              refine AllReadyH.cons (o := { dst := some 76, op := Op.call { callee := Callee.value (Operand.func 11), args := #[Operand.tmp 75], argTypes := #[22] }, type := 22, pos := "law.go:83", after := #[{ on := 4, ground := Ground.data }, { on := 4, ground := Ground.chain }], guard := none }) rfl (fun K hK => ?_) AllReadyH.nil
              go_simp
              (first
                  | (go_at_call 11; ((with_reducible refine (all_is (fs ++ [(upF x top)]) (fs.length + 1) A2 c2 La La.length _ (snoc_len rfl) HA2 (by omega) HOK.out HAI.out rfl).mono ?_); rintro e' wk ⟨⟨Az, cz, rfl, HZ, hZ, hZr⟩, hb⟩; replace HBn := btr HBn HBn.size hb; clear HA2 hb hZr))
                  | (go_at_call 13; ((with_reducible refine (same_yes La Az Aa La.length cz ca _ rfl (by omega) hZ (hA.next HBn)).mono ?_); rintro e' wk ⟨rfl, hb⟩; replace HBn := btr HBn HBn.size hb; clear hZ hb)))
              go_wp2_with fail
              refine hK.out _ _ ?_ (fun hNew => ?_)
              · (first | exact keep6 hX6 hgl HBn | assumption)
              clear hK K hHeld
              have hHeld := hNew
              clear hNew
              try simp only [Act.put, List.setIfInBounds_toArray, List.set_cons_zero, List.set_cons_succ]
              refine wpAnyH_ready (rs := [7]) (by kernel_rfl) (by simp) ?_
              refine AllReadyH.cons (o := { dst := some 78, op := Op.call { callee := Callee.value (Operand.func 13), args := #[Operand.tmp 76, Operand.tmp 77], argTypes := #[22, 22] }, type := 4, pos := "law.go:83", after := #[{ on := 5, ground := Ground.data }, { on := 6, ground := Ground.data }, { on := 5, ground := Ground.chain }], guard := none }) rfl (fun K hK => ?_) AllReadyH.nil
              go_simp
              (first
                  | (go_at_call 11; ((with_reducible refine (all_is (fs ++ [(upF x top)]) (fs.length + 1) A2 c2 La La.length _ (snoc_len rfl) HA2 (by omega) HOK.out HAI.out rfl).mono ?_); rintro e' wk ⟨⟨Az, cz, rfl, HZ, hZ, hZr⟩, hb⟩; replace HBn := btr HBn HBn.size hb; clear HA2 hb hZr))
                  | (go_at_call 13; ((with_reducible refine (same_yes La Az Aa La.length cz ca _ rfl (by omega) hZ (hA.next HBn)).mono ?_); rintro e' wk ⟨rfl, hb⟩; replace HBn := btr HBn HBn.size hb; clear hZ hb)))
              go_wp2_with fail
              refine hK.out _ _ ?_ (fun hNew => ?_)
              · (first | exact keep6 hX6 hgl HBn | assumption)
              clear hK K hHeld
              have hHeld := hNew
              clear hNew
              try simp only [Act.put, List.setIfInBounds_toArray, List.set_cons_zero, List.set_cons_succ]
              refine wpAnyH_take (i := 8) (oi := { dst := some 79, op := Op.unOp UnOp.not 4 (Operand.tmp 78), type := 4, pos := "law.go:83", after := #[{ on := 7, ground := Ground.data }], guard := none }) (v := ?_) rfl (by kernel_rfl) (by kernel_rfl) (by kernel_rfl) (fun _ _ _ h => h) (Or.inl ⟨by rfl, ?_⟩) (by assumption) ?_
              rotate_left
              · (intro wS hSw; (try dsimp only at hSw); go_simp; (try with_reducible rfl))
              try simp only [Act.put, List.setIfInBounds_toArray, List.set_cons_zero, List.set_cons_succ]
              refine wpAnyH_done (by kernel_rfl) ?_ _
              refine NoPanic.normal ?_
              go_wp2_with fail
              go_meet
              exact btr hBX hBX.size HBn
        · go_wp2_with fail
          go_meet
          exact Below.refl _ _

      case rest =>
        have hb := hcut
        clear hcut hS
        replace hF := hF.next hb
        replace hA := hA.next hb
        replace hB := btr hB hB.size hb
        clear hb
        by_cases ha0 : La.length = 0
        · have hz : ((La.length : Int) == 0) = true := by rw [ha0]; rfl
          clear ha0
          go_wp2_with (go_at_call 9; ((with_reducible refine (awake_any _).mono ?_); rintro e' wz ⟨rfl, hb⟩))
          go_ret
          exact ⟨rfl, btr hB hB.size hb⟩
        · have hz : ((La.length : Int) == 0) = false := by simp; intro h0; rw [h0] at ha0; exact ha0 rfl
          obtain ⟨k, hk, hkl⟩ := low_idx which La.length (by omega)
          obtain ⟨y, hy⟩ : ∃ y, La[k]? = some y := ⟨_, List.getElem?_eq_getElem hkl⟩
          have hpos : 0 < La.length := by omega
          have hgy : La[k] = y := by have := List.getElem?_eq_getElem hkl; rw [hy] at this; exact (Option.some.inj this).symm
          have hym := HLa.out.1.mem (List.mem_of_getElem? hy)
          have HAI : Hid (∀ L', IsAll (fs ++ [upB y block top]) L' → L' = La.set k (upB y block top)) := Lib.hid (fun L' hL' => copies_all HLa.out.1 hL' hkl (by rw [hgy]; rfl) hym.2.1 (by rw [hgy]; rfl) (HTF.out.lt2 y block))
          have HOK : Hid (∀ x ∈ fs ++ [upB y block top], FdOk x) := Lib.hid (ok_snoc HAL.out (upB_ok (HAL.out y hym.1) hbl ht1 ht2))
          have HSET : Hid ((La.set k (upB y block top))[k]? = some (upB y block top)) := Lib.hid (by rw [List.getElem?_set_self hkl])
          have HSS : Hid ((La.set k (upB y block top)).set k y = La) := Lib.hid (by rw [List.set_set, ← hgy, List.set_getElem_self])
          obtain ⟨b2, o2, e2, l2, q2⟩ := hA.at_ hpos
          obtain ⟨y0, y1, y2, y3, y4, y5⟩ := q2 k y hy
          subst e2
          have HK := Lib.hid hk
          have k0 : (0 : Int) ≤ (k : Int) := by omega
          have k1 : (k : Int) < (La.length : Int) := by omega
          have HY := Lib.hid hy
          clear q2 hk hy hgy hym ha0
          go_upto_region 22 with (go_at_call 10; ((with_reducible refine (low_at which La.length k _ hpos (by omega) HK.out).mono ?_); rintro e' w1 ⟨rfl, rfl⟩))
          clear y0 y1 y2 y3 y4 y5
          have hX : Blk (wc.alloc (.cells #[.int .i64 block, .int .i64 y.g, .int .i64 y.k, .int .i64 y.p, .int .i64 (top + 1), .int .i64 y.e] 30)) wc.heap.size 30 #[.int .i64 block, .int .i64 y.g, .int .i64 y.k, .int .i64 y.p, .int .i64 (top + 1), .int .i64 y.e] := Blk.new_ _ _ _
          have hbX : Below wc.heap.size wc (wc.alloc (.cells #[.int .i64 block, .int .i64 y.g, .int .i64 y.k, .int .i64 y.p, .int .i64 (top + 1), .int .i64 y.e] 30)) := (Below.refl _ _).alloc (Nat.le_refl _) _
          replace hF := hF.next hbX
          replace hA := hA.next hbX
          replace hB := btr hB hB.size hbX
          obtain ⟨gx, hgx⟩ : ∃ g, wc.heap.size = g := ⟨_, rfl⟩
          rw [hgx] at hX
          (try rw [hgx])
          clear hbX
          generalize wc.alloc (.cells #[.int .i64 block, .int .i64 y.g, .int .i64 y.k, .int .i64 y.p, .int .i64 (top + 1), .int .i64 y.e] 30) = we at hX hF hA hB ⊢
          clear hgx
          have hgl := hX.lt
          have hX6 : we.cell? ⟨gx, 0, none⟩ = some (.int .i64 (upB y block top).b) ∧ we.cell? ⟨gx, 1, none⟩ = some (.int .i64 (upB y block top).g) ∧ we.cell? ⟨gx, 2, none⟩ = some (.int .i64 (upB y block top).k) ∧ we.cell? ⟨gx, 3, none⟩ = some (.int .i64 (upB y block top).p) ∧ we.cell? ⟨gx, 4, none⟩ = some (.int .i64 (upB y block top).s) ∧ we.cell? ⟨gx, 5, none⟩ = some (.int .i64 (upB y block top).e) := ⟨hX.cell_ 0, hX.cell_ 1, hX.cell_ 2, hX.cell_ 3, hX.cell_ 4, hX.cell_ 5⟩
          go_cut [14] (fun v wx => ∃ (A : Option Addr) (cb : Nat), v = .slice A La.length cb ∧ La.length ≤ cb ∧ SlFd wx wx.heap.size A (La.set k (upB y block top)) ∧ RowFd wx we.heap.size (.slice A La.length cb) (La.set k (upB y block top)) ∧ Below we.heap.size we wx)
          case first =>
            have HBn : Below we.heap.size we we.drew := (Below.refl _ _).drew
            refine wp_region_noPanic ?_
            refine wp_region_held_drew (S := (fun w' => Below we.heap.size we w' ∧ w'.cell? ⟨gx, 0, none⟩ = some (.int .i64 (upB y block top).b) ∧ w'.cell? ⟨gx, 1, none⟩ = some (.int .i64 (upB y block top).g) ∧ w'.cell? ⟨gx, 2, none⟩ = some (.int .i64 (upB y block top).k) ∧ w'.cell? ⟨gx, 3, none⟩ = some (.int .i64 (upB y block top).p) ∧ w'.cell? ⟨gx, 4, none⟩ = some (.int .i64 (upB y block top).s) ∧ w'.cell? ⟨gx, 5, none⟩ = some (.int .i64 (upB y block top).e))) (by kernel_rfl) ?_ (fun hHeld => ?_)
            · (first | exact keep6 hX6 hgl HBn | assumption)
            refine wpAnyH_take (i := 0) (oi := { dst := some 99, op := Op.move (Operand.tmp 0), type := 22, pos := "law.go:94", after := #[], guard := none }) (v := ?_) rfl (by kernel_rfl) (by kernel_rfl) (by kernel_rfl) (fun _ _ _ h => h) (Or.inl ⟨by rfl, ?_⟩) (by assumption) ?_
            rotate_left
            · (intro wS hSw; (try dsimp only at hSw); go_simp; (try with_reducible rfl))
            try simp only [Act.put, List.setIfInBounds_toArray, List.set_cons_zero, List.set_cons_succ]
            refine wpAnyH_take (i := 2) (oi := { dst := some 101, op := Op.load 30 (Operand.tmp 13), type := 30, pos := "law.go:94", after := #[], guard := none }) (v := ?_) rfl (by kernel_rfl) (by kernel_rfl) (by kernel_rfl) (fun _ _ _ h => h) (Or.inl ⟨by rfl, ?_⟩) (by assumption) ?_
            rotate_left
            · (intro wS hSw; (try dsimp only at hSw); go_simp; (try with_reducible rfl))
            try simp only [Act.put, List.setIfInBounds_toArray, List.set_cons_zero, List.set_cons_succ]
            refine wpAnyH_ready (rs := [1, 3]) (by kernel_rfl) (by simp) ?_
            refine (AllReadyH.cons (o := { dst := some 100, op := Op.call { callee := Callee.builtin Builtin.append, args := #[Operand.const (Value.slice none 0 0), Operand.tmp 99], argTypes := #[22, 22] }, type := 22, pos := "law.go:94", after := #[{ on := 0, ground := Ground.data }], guard := none }) rfl (fun K hK => ?_) (AllReadyH.cons (o := { dst := some 102, op := Op.buildSlice 22 1 #[(0, Operand.tmp 101)], type := 22, pos := "law.go:94", after := #[{ on := 2, ground := Ground.data }], guard := none }) rfl (fun K hK => ?_) AllReadyH.nil))
            · obtain ⟨ti0, hi, hz0, hz1, hz2⟩ := info_parts infoFd
              refine step_app _ rfl (.const (.slice none 0 0)) (.tmp 99) _ rfl we.heap.size 30 ti0 _ 6 48 Try.underlying22 hi hz0 hz1 hz2 rfl (by decide) (.slice none 0 0) 0 [] rfl (World.ownsRow_nil _ _ _ _) _ fs.length _ (fs.flatMap fCs) rfl (rd_sl (hF.below HBn) rfl) (flat_one fs) (by unfold maxLen; omega) (by omega) HBn.size ?_
              intro v1 wk ho1 hg1 hv1
              clear hi hz0 hz1 hz2 hv1
              have hro := row_first rfl ho1
              (try replace hbk := blk_below hbk (below_grown hg1))
              replace HBn := btr HBn HBn.size (below_grown hg1)
              clear ho1 hg1
              refine hK.out _ _ ?_ (fun hNew => ?_)
              · (first | exact keep6 hX6 hgl HBn | assumption)
              clear hK K hHeld
              have hHeld := hNew
              clear hNew
              try simp only [Act.put, List.setIfInBounds_toArray, List.set_cons_zero, List.set_cons_succ]
              refine wpAnyH_ready (rs := [3]) (by kernel_rfl) (by simp) ?_
              refine AllReadyH.cons (o := { dst := some 102, op := Op.buildSlice 22 1 #[(0, Operand.tmp 101)], type := 22, pos := "law.go:94", after := #[{ on := 2, ground := Ground.data }], guard := none }) rfl (fun K hK => ?_) AllReadyH.nil
              refine step_buildF rfl (.tmp 101) rfl (upB y block top) rfl ?_
              intro wk gb hbk hgb hbB
              (try replace hro := hro.below hbB)
              replace HBn := btr HBn HBn.size hbB
              clear hbB
              refine hK.out _ _ ?_ (fun hNew => ?_)
              · (first | exact keep6 hX6 hgl HBn | assumption)
              clear hK K hHeld
              have hHeld := hNew
              clear hNew
              try simp only [Act.put, List.setIfInBounds_toArray, List.set_cons_zero, List.set_cons_succ]
              refine wpAnyH_ready (rs := [4]) (by kernel_rfl) (by simp) ?_
              refine AllReadyH.cons (o := { dst := some 103, op := Op.call { callee := Callee.builtin Builtin.append, args := #[Operand.tmp 100, Operand.tmp 102], argTypes := #[22, 22] }, type := 22, pos := "law.go:94", after := #[{ on := 1, ground := Ground.data }, { on := 3, ground := Ground.data }, { on := 1, ground := Ground.chain }], guard := none }) rfl (fun K hK => ?_) AllReadyH.nil
              obtain ⟨ti0, hi, hz0, hz1, hz2⟩ := info_parts infoFd
              refine step_app _ rfl (.tmp 100) (.tmp 102) _ rfl we.heap.size 30 ti0 _ 6 48 Try.underlying22 hi hz0 hz1 hz2 rfl (by decide) v1 fs.length (fs.flatMap fCs) rfl hro _ 1 _ (fCs (upB y block top)) rfl (rd_blk hbk) (flat_one1 _) (by unfold maxLen; omega) (by omega) HBn.size ?_
              intro v2 wk ho2 hg2 hv2
              clear hi hz0 hz1 hz2 hv2
              obtain ⟨HB2, A2, c2, rfl, HA2, hc2, hm2⟩ := chain_app0 rfl HBn hro ho2 hg2
              replace HBn := HB2
              clear ho2 hg2 hro hbk HB2
              refine hK.out _ _ ?_ (fun hNew => ?_)
              · (first | exact keep6 hX6 hgl HBn | assumption)
              clear hK K hHeld
              have hHeld := hNew
              clear hNew
              try simp only [Act.put, List.setIfInBounds_toArray, List.set_cons_zero, List.set_cons_succ]
              refine wpAnyH_ready (rs := [5]) (by kernel_rfl) (by simp) ?_
              refine AllReadyH.cons (o := { dst := some 104, op := Op.call { callee := Callee.value (Operand.func 11), args := #[Operand.tmp 103], argTypes := #[22] }, type := 22, pos := "law.go:94", after := #[{ on := 4, ground := Ground.data }, { on := 4, ground := Ground.chain }], guard := none }) rfl (fun K hK => ?_) AllReadyH.nil
              go_simp
              (go_at_call 11; ((with_reducible refine (all_is (fs ++ [(upB y block top)]) (fs.length + 1) A2 c2 (La.set k (upB y block top)) La.length _ (snoc_len rfl) HA2 (by omega) HOK.out HAI.out List.length_set).mono ?_); rintro e' wk ⟨⟨Az, cz, rfl, HZ, hZ, hZr⟩, hb⟩; replace hZr := hZr.base HBn.size; replace HBn := btr HBn HBn.size hb; clear HA2 hb))
              go_wp2_with fail
              refine hK.out _ _ ?_ (fun hNew => ?_)
              · (first | exact keep6 hX6 hgl HBn | assumption)
              clear hK K hHeld
              have hHeld := hNew
              clear hNew
              try simp only [Act.put, List.setIfInBounds_toArray, List.set_cons_zero, List.set_cons_succ]
              refine wpAnyH_take (i := 6) (oi := { dst := some 14, op := Op.assign (Operand.tmp 104), type := 22, pos := "law.go:94", after := #[{ on := 5, ground := Ground.data }, { on := 5, ground := Ground.chain }, { on := 0, ground := Ground.phase }, { on := 1, ground := Ground.phase }, { on := 2, ground := Ground.phase }, { on := 3, ground := Ground.phase }, { on := 4, ground := Ground.phase }, { on := 5, ground := Ground.phase }], guard := none }) (v := ?_) rfl (by kernel_rfl) (by kernel_rfl) (by kernel_rfl) (fun _ _ _ h => h) (Or.inl ⟨by rfl, ?_⟩) (by assumption) ?_
              rotate_left
              · (intro wS hSw; (try dsimp only at hSw); go_simp; (try with_reducible rfl))
              try simp only [Act.put, List.setIfInBounds_toArray, List.set_cons_zero, List.set_cons_succ]
              refine wpAnyH_done (by kernel_rfl) ?_ _
              refine NoPanic.normal ?_
              go_wp2_with fail
              go_meet
              exact ⟨_, _, rfl, HZ.out.2.1, hZ, hZr, HBn⟩
            · refine step_buildF rfl (.tmp 101) rfl (upB y block top) rfl ?_
              intro wk gb hbk hgb hbB
              (try replace hro := hro.below hbB)
              replace HBn := btr HBn HBn.size hbB
              clear hbB
              refine hK.out _ _ ?_ (fun hNew => ?_)
              · (first | exact keep6 hX6 hgl HBn | assumption)
              clear hK K hHeld
              have hHeld := hNew
              clear hNew
              try simp only [Act.put, List.setIfInBounds_toArray, List.set_cons_zero, List.set_cons_succ]
              refine wpAnyH_ready (rs := [1]) (by kernel_rfl) (by simp) ?_
              refine AllReadyH.cons (o := { dst := some 100, op := Op.call { callee := Callee.builtin Builtin.append, args := #[Operand.const (Value.slice none 0 0), Operand.tmp 99], argTypes := #[22, 22] }, type := 22, pos := "law.go:94", after := #[{ on := 0, ground := Ground.data }], guard := none }) rfl (fun K hK => ?_) AllReadyH.nil
              obtain ⟨ti0, hi, hz0, hz1, hz2⟩ := info_parts infoFd
              refine step_app _ rfl (.const (.slice none 0 0)) (.tmp 99) _ rfl we.heap.size 30 ti0 _ 6 48 Try.underlying22 hi hz0 hz1 hz2 rfl (by decide) (.slice none 0 0) 0 [] rfl (World.ownsRow_nil _ _ _ _) _ fs.length _ (fs.flatMap fCs) rfl (rd_sl (hF.below HBn) rfl) (flat_one fs) (by unfold maxLen; omega) (by omega) HBn.size ?_
              intro v1 wk ho1 hg1 hv1
              clear hi hz0 hz1 hz2 hv1
              have hro := row_first rfl ho1
              (try replace hbk := blk_below hbk (below_grown hg1))
              replace HBn := btr HBn HBn.size (below_grown hg1)
              clear ho1 hg1
              refine hK.out _ _ ?_ (fun hNew => ?_)
              · (first | exact keep6 hX6 hgl HBn | assumption)
              clear hK K hHeld
              have hHeld := hNew
              clear hNew
              try simp only [Act.put, List.setIfInBounds_toArray, List.set_cons_zero, List.set_cons_succ]
              refine wpAnyH_ready (rs := [4]) (by kernel_rfl) (by simp) ?_
              refine AllReadyH.cons (o := { dst := some 103, op := Op.call { callee := Callee.builtin Builtin.append, args := #[Operand.tmp 100, Operand.tmp 102], argTypes := #[22, 22] }, type := 22, pos := "law.go:94", after := #[{ on := 1, ground := Ground.data }, { on := 3, ground := Ground.data }, { on := 1, ground := Ground.chain }], guard := none }) rfl (fun K hK => ?_) AllReadyH.nil
              obtain ⟨ti0, hi, hz0, hz1, hz2⟩ := info_parts infoFd
              refine step_app _ rfl (.tmp 100) (.tmp 102) _ rfl we.heap.size 30 ti0 _ 6 48 Try.underlying22 hi hz0 hz1 hz2 rfl (by decide) v1 fs.length (fs.flatMap fCs) rfl hro _ 1 _ (fCs (upB y block top)) rfl (rd_blk hbk) (flat_one1 _) (by unfold maxLen; omega) (by omega) HBn.size ?_
              intro v2 wk ho2 hg2 hv2
              clear hi hz0 hz1 hz2 hv2
              obtain ⟨HB2, A2, c2, rfl, HA2, hc2, hm2⟩ := chain_app0 rfl HBn hro ho2 hg2
              replace HBn := HB2
              clear ho2 hg2 hro hbk HB2
              refine hK.out _ _ ?_ (fun hNew => ?_)
              · (first | exact keep6 hX6 hgl HBn | assumption)
              clear hK K hHeld
              have hHeld := hNew
              clear hNew
              try simp only [Act.put, List.setIfInBounds_toArray, List.set_cons_zero, List.set_cons_succ]
              refine wpAnyH_ready (rs := [5]) (by kernel_rfl) (by simp) ?_
              refine AllReadyH.cons (o := { dst := some 104, op := Op.call { callee := Callee.value (Operand.func 11), args := #[Operand.tmp 103], argTypes := #[22] }, type := 22, pos := "law.go:94", after := #[{ on := 4, ground := Ground.data }, { on := 4, ground := Ground.chain }], guard := none }) rfl (fun K hK => ?_) AllReadyH.nil
              go_simp
              (go_at_call 11; ((with_reducible refine (all_is (fs ++ [(upB y block top)]) (fs.length + 1) A2 c2 (La.set k (upB y block top)) La.length _ (snoc_len rfl) HA2 (by omega) HOK.out HAI.out List.length_set).mono ?_); rintro e' wk ⟨⟨Az, cz, rfl, HZ, hZ, hZr⟩, hb⟩; replace hZr := hZr.base HBn.size; replace HBn := btr HBn HBn.size hb; clear HA2 hb))
              go_wp2_with fail
              refine hK.out _ _ ?_ (fun hNew => ?_)
              · (first | exact keep6 hX6 hgl HBn | assumption)
              clear hK K hHeld
              have hHeld := hNew
              clear hNew
              try simp only [Act.put, List.setIfInBounds_toArray, List.set_cons_zero, List.set_cons_succ]
              refine wpAnyH_take (i := 6) (oi := { dst := some 14, op := Op.assign (Operand.tmp 104), type := 22, pos := "law.go:94", after := #[{ on := 5, ground := Ground.data }, { on := 5, ground := Ground.chain }, { on := 0, ground := Ground.phase }, { on := 1, ground := Ground.phase }, { on := 2, ground := Ground.phase }, { on := 3, ground := Ground.phase }, { on := 4, ground := Ground.phase }, { on := 5, ground := Ground.phase }], guard := none }) (v := ?_) rfl (by kernel_rfl) (by kernel_rfl) (by kernel_rfl) (fun _ _ _ h => h) (Or.inl ⟨by rfl, ?_⟩) (by assumption) ?_
              rotate_left
              · (intro wS hSw; (try dsimp only at hSw); go_simp; (try with_reducible rfl))
              try simp only [Act.put, List.setIfInBounds_toArray, List.set_cons_zero, List.set_cons_succ]
              refine wpAnyH_done (by kernel_rfl) ?_ _
              refine NoPanic.normal ?_
              go_wp2_with fail
              go_meet
              exact ⟨_, _, rfl, HZ.out.2.1, hZ, hZr, HBn⟩
          case rest =>
            obtain ⟨Ab, cb, rfl, hcb, hLb, hRb, hb⟩ := hcut
            obtain ⟨wg, hwg⟩ : ∃ W, W = wc := ⟨_, rfl⟩
            subst hwg
            obtain ⟨gb, rfl, hgb, hgbl, hfz, hcl⟩ := hRb.blk (by rw [List.length_set]; omega)
            have q := hcl k _ HSET.out
            rw [Nat.zero_add] at q
            have z0 : wg.cell? ⟨gb, k * 6, none⟩ = some (.int .i64 block) := q 0 _ rfl
            have z1 : wg.cell? ⟨gb, k * 6 + 1, none⟩ = some (.int .i64 y.g) := q 1 _ rfl
            have z2 : wg.cell? ⟨gb, k * 6 + 2, none⟩ = some (.int .i64 y.k) := q 2 _ rfl
            have z3 : wg.cell? ⟨gb, k * 6 + 3, none⟩ = some (.int .i64 y.p) := q 3 _ rfl
            have z4 : wg.cell? ⟨gb, k * 6 + 4, none⟩ = some (.int .i64 (top + 1)) := q 4 _ rfl
            have z5 : wg.cell? ⟨gb, k * 6 + 5, none⟩ = some (.int .i64 y.e) := q 5 _ rfl
            obtain ⟨x0, x1, x2, x3, x4, x5⟩ := (keep6 hX6 hgl hb).2
            clear q hcl hfz
            go_upto_region 23 with fail
            go_cut [117] (fun v wx => v = .bool false ∧ Below wg.heap.size wg wx)
            case first =>
              refine wp_region_noPanic ?_
              refine wp_region_held_drew (S := (fun w' => w'.cell? ⟨gb, k * 6, none⟩ = some (.int .i64 block) ∧ w'.cell? ⟨gb, k * 6 + 1, none⟩ = some (.int .i64 y.g) ∧ w'.cell? ⟨gb, k * 6 + 2, none⟩ = some (.int .i64 y.k) ∧ w'.cell? ⟨gb, k * 6 + 3, none⟩ = some (.int .i64 y.p) ∧ w'.cell? ⟨gb, k * 6 + 4, none⟩ = some (.int .i64 (top + 1)) ∧ w'.cell? ⟨gb, k * 6 + 5, none⟩ = some (.int .i64 y.e) ∧ w'.cell? ⟨gx, 0, none⟩ = some (.int .i64 block) ∧ w'.cell? ⟨gx, 1, none⟩ = some (.int .i64 y.g) ∧ w'.cell? ⟨gx, 2, none⟩ = some (.int .i64 y.k) ∧ w'.cell? ⟨gx, 3, none⟩ = some (.int .i64 y.p) ∧ w'.cell? ⟨gx, 4, none⟩ = some (.int .i64 (top + 1)) ∧ w'.cell? ⟨gx, 5, none⟩ = some (.int .i64 y.e))) (by kernel_rfl) ?_ (fun hHeld => ?_)
              · (first | exact ⟨z0, z1, z2, z3, z4, z5, x0, x1, x2, x3, x4, x5⟩ | assumption)
              refine wpAnyH_take (i := 0) (oi := { dst := some 105, op := Op.move (Operand.tmp 14), type := 22, pos := "law.go:95", after := #[], guard := none }) (v := ?_) rfl (by kernel_rfl) (by kernel_rfl) (by kernel_rfl) (fun _ _ _ h => h) (Or.inl ⟨by rfl, ?_⟩) (by assumption) ?_
              rotate_left
              · (intro wS hSw; (try dsimp only at hSw); go_simp; (try with_reducible rfl))
              try simp only [Act.put, List.setIfInBounds_toArray, List.set_cons_zero, List.set_cons_succ]
              refine wpAnyH_take (i := 1) (oi := { dst := some 106, op := Op.call { callee := Callee.builtin Builtin.len, args := #[Operand.tmp 105], argTypes := #[22] }, type := 3, pos := "law.go:95", after := #[{ on := 0, ground := Ground.data }], guard := none }) (v := ?_) rfl (by kernel_rfl) (by kernel_rfl) (by kernel_rfl) (fun _ _ _ h => h) (Or.inl ⟨by rfl, ?_⟩) (by assumption) ?_
              rotate_left
              · (intro wS hSw; (try dsimp only at hSw); go_simp; (try with_reducible rfl))
              try simp only [Act.put, List.setIfInBounds_toArray, List.set_cons_zero, List.set_cons_succ]
              refine wpAnyH_take (i := 2) (oi := { dst := some 107, op := Op.move (Operand.tmp 9), type := 22, pos := "law.go:95", after := #[], guard := none }) (v := ?_) rfl (by kernel_rfl) (by kernel_rfl) (by kernel_rfl) (fun _ _ _ h => h) (Or.inl ⟨by rfl, ?_⟩) (by assumption) ?_
              rotate_left
              · (intro wS hSw; (try dsimp only at hSw); go_simp; (try with_reducible rfl))
              try simp only [Act.put, List.setIfInBounds_toArray, List.set_cons_zero, List.set_cons_succ]
              refine wpAnyH_take (i := 3) (oi := { dst := some 108, op := Op.call { callee := Callee.builtin Builtin.len, args := #[Operand.tmp 107], argTypes := #[22] }, type := 3, pos := "law.go:95", after := #[{ on := 2, ground := Ground.data }], guard := none }) (v := ?_) rfl (by kernel_rfl) (by kernel_rfl) (by kernel_rfl) (fun _ _ _ h => h) (Or.inl ⟨by rfl, ?_⟩) (by assumption) ?_
              rotate_left
              · (intro wS hSw; (try dsimp only at hSw); go_simp; (try with_reducible rfl))
              try simp only [Act.put, List.setIfInBounds_toArray, List.set_cons_zero, List.set_cons_succ]
              refine wpAnyH_take (i := 4) (oi := { dst := some 109, op := Op.binOp BinOp.neq 3 (Operand.tmp 106) (Operand.tmp 108) 3, type := 4, pos := "law.go:95", after := #[{ on := 1, ground := Ground.data }, { on := 3, ground := Ground.data }], guard := none }) (v := ?_) rfl (by kernel_rfl) (by kernel_rfl) (by kernel_rfl) (fun _ _ _ h => h) (Or.inl ⟨by rfl, ?_⟩) (by assumption) ?_
              rotate_left
              · (intro wS hSw; (try dsimp only at hSw); go_simp; (try with_reducible rfl))
              try simp only [Act.put, List.setIfInBounds_toArray, List.set_cons_zero, List.set_cons_succ]
              refine wpAnyH_take (i := 5) (oi := { dst := some 110, op := Op.move (Operand.tmp 109), type := 4, pos := "law.go:95", after := #[{ on := 4, ground := Ground.data }], guard := none }) (v := ?_) rfl (by kernel_rfl) (by kernel_rfl) (by kernel_rfl) (fun _ _ _ h => h) (Or.inl ⟨by rfl, ?_⟩) (by assumption) ?_
              rotate_left
              · (intro wS hSw; (try dsimp only at hSw); go_simp; (try with_reducible rfl))
              try simp only [Act.put, List.setIfInBounds_toArray, List.set_cons_zero, List.set_cons_succ]
              refine wpAnyH_take (i := 6) (oi := { dst := some 111, op := Op.move (Operand.tmp 14), type := 22, pos := "law.go:95", after := #[{ on := 5, ground := Ground.guard }], guard := some (5, false) }) (v := ?_) rfl (by kernel_rfl) (by kernel_rfl) (by kernel_rfl) (fun _ _ _ h => h) (Or.inl ⟨by rfl, ?_⟩) (by assumption) ?_
              rotate_left
              · (intro wS hSw; (try dsimp only at hSw); go_simp; (try with_reducible rfl))
              try simp only [Act.put, List.setIfInBounds_toArray, List.set_cons_zero, List.set_cons_succ]
              refine wpAnyH_take (i := 7) (oi := { dst := some 112, op := Op.move (Operand.tmp 12), type := 3, pos := "law.go:95", after := #[{ on := 5, ground := Ground.guard }], guard := some (5, false) }) (v := ?_) rfl (by kernel_rfl) (by kernel_rfl) (by kernel_rfl) (fun _ _ _ h => h) (Or.inl ⟨by rfl, ?_⟩) (by assumption) ?_
              rotate_left
              · (intro wS hSw; (try dsimp only at hSw); go_simp; (try with_reducible rfl))
              try simp only [Act.put, List.setIfInBounds_toArray, List.set_cons_zero, List.set_cons_succ]
              refine wpAnyH_take (i := 8) (oi := { dst := some 113, op := Op.indexAddr 22 (Operand.tmp 111) (Operand.tmp 112), type := 0, pos := "law.go:95", after := #[{ on := 6, ground := Ground.data }, { on := 7, ground := Ground.data }, { on := 5, ground := Ground.guard }], guard := some (5, false) }) (v := ?_) rfl (by kernel_rfl) (by kernel_rfl) (by kernel_rfl) (fun _ _ _ h => h) (Or.inl ⟨by rfl, ?_⟩) (by assumption) ?_
              rotate_left
              · (intro wS hSw; (try dsimp only at hSw); go_simp; (try with_reducible rfl))
              try simp only [Act.put, List.setIfInBounds_toArray, List.set_cons_zero, List.set_cons_succ]
              refine wpAnyH_take (i := 9) (oi := { dst := some 114, op := Op.load 30 (Operand.tmp 113), type := 30, pos := "law.go:95", after := #[{ on := 8, ground := Ground.data }, { on := 5, ground := Ground.guard }], guard := some (5, false) }) (v := ?_) rfl (by kernel_rfl) (by kernel_rfl) (by kernel_rfl) (fun _ _ _ h => h) (Or.inl ⟨by rfl, ?_⟩) (by assumption) ?_
              rotate_left
              · (intro wS hSw; (try dsimp only at hSw); go_simp; (try with_reducible rfl))
              try simp only [Act.put, List.setIfInBounds_toArray, List.set_cons_zero, List.set_cons_succ]
              refine wpAnyH_take (i := 10) (oi := { dst := some 115, op := Op.load 30 (Operand.tmp 13), type := 30, pos := "law.go:95", after := #[{ on := 5, ground := Ground.guard }], guard := some (5, false) }) (v := ?_) rfl (by kernel_rfl) (by kernel_rfl) (by kernel_rfl) (fun _ _ _ h => h) (Or.inl ⟨by rfl, ?_⟩) (by assumption) ?_
              rotate_left
              · (intro wS hSw; (try dsimp only at hSw); go_simp; (try with_reducible rfl))
              try simp only [Act.put, List.setIfInBounds_toArray, List.set_cons_zero, List.set_cons_succ]
              refine wpAnyH_take (i := 11) (oi := { dst := some 116, op := Op.binOp BinOp.neq 30 (Operand.tmp 114) (Operand.tmp 115) 30, type := 4, pos := "law.go:95", after := #[{ on := 9, ground := Ground.data }, { on := 10, ground := Ground.data }, { on := 5, ground := Ground.guard }], guard := some (5, false) }) (v := ?_) rfl (by kernel_rfl) (by kernel_rfl) (by kernel_rfl) (fun _ _ _ h => h) (Or.inl ⟨by rfl, ?_⟩) (by assumption) ?_
              rotate_left
              · (intro wS hSw; (try dsimp only at hSw); go_simp; (try with_reducible rfl))
              try simp only [Act.put, List.setIfInBounds_toArray, List.set_cons_zero, List.set_cons_succ]
              refine wpAnyH_take (i := 12) (oi := { dst := some 117, op := Op.pick (Operand.tmp 110) (Operand.const (Value.bool true)) (Operand.tmp 116), type := 4, pos := "law.go:95", after := #[{ on := 5, ground := Ground.data }, { on := 11, ground := Ground.data }], guard := none }) (v := ?_) rfl (by kernel_rfl) (by kernel_rfl) (by kernel_rfl) (fun _ _ _ h => h) (Or.inl ⟨by rfl, ?_⟩) (by assumption) ?_
              rotate_left
              · (intro wS hSw; (try dsimp only at hSw); go_simp; (try with_reducible rfl))
              try simp only [Act.put, List.setIfInBounds_toArray, List.set_cons_zero, List.set_cons_succ]
              refine wpAnyH_done (by kernel_rfl) ?_ _
              refine NoPanic.normal ?_
              go_wp2_with fail
              go_meet
              exact ⟨rfl, (Below.refl _ _).drew⟩
            case rest =>
              obtain ⟨rfl, hb2⟩ := hcut
              clear z0 z1 z2 z3 z4 z5 x0 x1 x2 x3 x4 x5
              have hb3 := btr hb hb.size hb2
              have hRn := hRb.below hb2
              obtain ⟨gb', e', hgb2, hgbl2, hfz, hcl⟩ := hRn.blk (by rw [List.length_set]; omega)
              obtain rfl : gb = gb' := by simpa using e'
              have q := hcl k _ HSET.out
              rw [Nat.zero_add] at q
              have z0 : wc.cell? ⟨gb, k * 6, none⟩ = some (.int .i64 block) := q 0 _ rfl
              have z1 : wc.cell? ⟨gb, k * 6 + 1, none⟩ = some (.int .i64 y.g) := q 1 _ rfl
              have z2 : wc.cell? ⟨gb, k * 6 + 2, none⟩ = some (.int .i64 y.k) := q 2 _ rfl
              have z3 : wc.cell? ⟨gb, k * 6 + 3, none⟩ = some (.int .i64 y.p) := q 3 _ rfl
              have z4 : wc.cell? ⟨gb, k * 6 + 4, none⟩ = some (.int .i64 (top + 1)) := q 4 _ rfl
              have z5 : wc.cell? ⟨gb, k * 6 + 5, none⟩ = some (.int .i64 y.e) := q 5 _ rfl
              obtain ⟨b2', o2', e2, l2', q2⟩ := (hA.next hb3).at_ hpos
              obtain ⟨rfl, rfl⟩ : b2 = b2' ∧ o2 = o2' := by simpa using e2
              obtain ⟨y0, y1, y2, y3, y4, y5⟩ := q2 k y HY.out
              clear q q2 e2 e'
              go_upto_region 26 with fail
              have hst : ((((((wc.setCell ⟨gb, k * 6, none⟩ (.int .i64 y.b)).setCell ⟨gb, k * 6 + 1, none⟩ (.int .i64 y.g)).setCell ⟨gb, k * 6 + 2, none⟩ (.int .i64 y.k)).setCell ⟨gb, k * 6 + 3, none⟩ (.int .i64 y.p)).setCell ⟨gb, k * 6 + 4, none⟩ (.int .i64 y.s)).setCell ⟨gb, k * 6 + 5, none⟩ (.int .i64 y.e)) = st6o wc gb (k * 6) (.int .i64 y.b) (.int .i64 y.g) (.int .i64 y.k) (.int .i64 y.p) (.int .i64 y.s) (.int .i64 y.e) := rfl
              rw [hst]
              have hS6 := SlFd.set6 hcl hgbl2 (by rw [List.length_set]; exact hkl) y
              rw [HSS.out, Nat.zero_add] at hS6
              have hb6 := st6o_below (o := k * 6) hb3 hgb2 (.int .i64 y.b) (.int .i64 y.g) (.int .i64 y.k) (.int .i64 y.p) (.int .i64 y.s) (.int .i64 y.e)
              have hA6 := hA.next hb6
              have hB6 := btr hB hB.size hb6
              have hS7 : SlFd (st6o wc gb (k * 6) (.int .i64 y.b) (.int .i64 y.g) (.int .i64 y.k) (.int .i64 y.p) (.int .i64 y.s) (.int .i64 y.e)) (st6o wc gb (k * 6) (.int .i64 y.b) (.int .i64 y.g) (.int .i64 y.k) (.int .i64 y.p) (.int .i64 y.s) (.int .i64 y.e)).heap.size (some ⟨gb, 0, none⟩) La := by rw [st6o_size]; exact hS6
              clear hS6 hst hcl hfz hRn hRb hLb hA hF hB hb6 hb3 hb2 hb z0 z1 z2 z3 z4 z5 y0 y1 y2 y3 y4 y5
              generalize st6o wc gb (k * 6) (.int .i64 y.b) (.int .i64 y.g) (.int .i64 y.k) (.int .i64 y.p) (.int .i64 y.s) (.int .i64 y.e) = wf at hA6 hB6 hS7 ⊢
              go_wp2_with (first
                | (go_at_call 13; ((with_reducible refine (same_yes La _ _ La.length ca cb _ rfl (by omega) hA6 hS7).mono ?_); rintro e' wz ⟨rfl, hb⟩; replace hB6 := btr hB6 hB6.size hb; clear hb))
                | (go_at_call 9; ((with_reducible refine (awake_any _).mono ?_); rintro e' wz ⟨rfl, hb⟩)))
              go_ret
              exact ⟨rfl, btr hB6 hB6.size hb⟩
end Go.Proofs.Ytofeijlejljbdaa
