/- Chapter 26's own Tags. -/
import Derived.Test.YteokeghenjobaaaGreatDoorZy7
import Derived.Test.YteokeghenjobaaaGreatDoorZy4
import Derived.Test.YteokeghenjobaaaGreatDoorZy2
import Derived.Test.YteokeghenjobaaaGreatDoorZy3
import Derived.Test.YteokeghenjobaaaGreatDoorZy1
import Derived.Test.YteokeghenjobaaaGreatDoorRows
import Derived.SevenTiedAt
import Derived.LaidHandle
import Derived.Lib.LaidIn
import Derived.Lib.LaidU8T
import Derived.PinnedBridge
import Derived.ChangeMaps5
set_option linter.unusedSimpArgs false
set_option linter.unusedVariables false
set_option maxRecDepth 100000
set_option maxHeartbeats 16000000
namespace Go.Proofs.YteokeghenjobaaaGreatDoor
open Go.ChangeShapes Go.WideShapes Go.ChangeAt Go.RowKit
attribute [local go_sem ↓] Go.wp_at_zero Go.wp_at_succ
attribute [local go_sem] Oper.semAt_some
theorem rtagsr_no (s : Sf) (v : Value) (w : World) (hS : ShR w w.heap.size v s) (hz : SzF s) (hM : mayS s = false) :
    Calls Tryz.prog 20 #[v] w fun e' w' => e' = .returned (.slice none 0 0) ∧ Below w.heap.size w w' := by
  have hS0 := hS
  obtain ⟨Ab, cb, An, cn, rfl, hB, hN, hcb, hmb, hcn, hmn⟩ := hS.ex
  clear hS
  have HB : Below w.heap.size w (w.alloc (.cells #[.int .i64 s.nb, .int .i64 s.nn, .int .i64 s.ns, .slice Ab s.bs.length cb, .slice An s.ts.length cn] 25)) := ((Below.refl w.heap.size w).alloc (by first | (simp; done) | (simp; omega)) _)
  have B1 : Blk (w.alloc (.cells #[.int .i64 s.nb, .int .i64 s.nn, .int .i64 s.ns, .slice Ab s.bs.length cb, .slice An s.ts.length cn] 25)) w.heap.size 25 #[.int .i64 s.nb, .int .i64 s.nn, .int .i64 s.ns, .slice Ab s.bs.length cb, .slice An s.ts.length cn] := Blk.new_ w 25 #[.int .i64 s.nb, .int .i64 s.nn, .int .i64 s.ns, .slice Ab s.bs.length cb, .slice An s.ts.length cn]
  have S1 : ShR (w.alloc (.cells #[.int .i64 s.nb, .int .i64 s.nn, .int .i64 s.ns, .slice Ab s.bs.length cb, .slice An s.ts.length cn] 25)) ((w.alloc (.cells #[.int .i64 s.nb, .int .i64 s.nn, .int .i64 s.ns, .slice Ab s.bs.length cb, .slice An s.ts.length cn] 25))).heap.size (.agg #[.int .i64 s.nb, .int .i64 s.nn, .int .i64 s.ns, .slice Ab s.bs.length cb, .slice An s.ts.length cn]) s := hS0.next HB
  have HM : Hid (rMayB s = false) := Lib.hid ((rMay_eq s).trans hM)
  have HZ := Lib.hid hz
  clear hM hS0 hB hN hz
  go_enter Tryz.func20, Tryz.ntmps20
  go_wp2_with (go_at_call 45; ((with_reducible refine (rMay_any s _ _ S1 HZ.out _ HM.out).mono ?_); rintro e' wm ⟨rfl, b4⟩; have S1 := S1.next b4; have B1 := B1.below b4 B1.lt; have HB := btr HB HB.size b4; (try clear k0 k1 k2 k3 k4); have k0 := B1.cell_ 0; have k1 := B1.cell_ 1; have k2 := B1.cell_ 2; have k3 := B1.cell_ 3; have k4 := B1.cell_ 4; simp at k0 k1 k2 k3 k4; clear b4))
  go_ret
  exact ⟨rfl, HB⟩
theorem rtagsr_any (s : Sf) (v : Value) (w : World) (hS : ShR w w.heap.size v s) (hz : SzF s) (hM : mayS s = true) :
    Calls Tryz.prog 20 #[v] w fun e' w' => ∃ (A : Option Addr) (c n : Nat), e' = .returned (.slice A n c) ∧ n = (nmsTo s s.ts.length).length ∧ SlE 2 w' w'.heap.size A ((nmsTo s s.ts.length).map fun x => itC (tagIt s x.data.toList)) ∧ Below w.heap.size w w' := by
  have hF := mayF_of hM
  have hS0 := hS
  obtain ⟨Ab, cb, An, cn, rfl, hB, hN, hcb, hmb, hcn, hmn⟩ := hS.ex
  clear hS
  obtain ⟨n, hn⟩ : ∃ n, s.ts.length = n := ⟨_, rfl⟩
  obtain ⟨bn, hbn⟩ : ∃ n, s.bs.length = n := ⟨_, rfl⟩
  have HB : Below w.heap.size w (w.alloc (.cells #[.int .i64 s.nb, .int .i64 s.nn, .int .i64 s.ns, .slice Ab s.bs.length cb, .slice An s.ts.length cn] 25)) := ((Below.refl w.heap.size w).alloc (by first | (simp; done) | (simp; omega)) _)
  have B1 : Blk (w.alloc (.cells #[.int .i64 s.nb, .int .i64 s.nn, .int .i64 s.ns, .slice Ab s.bs.length cb, .slice An s.ts.length cn] 25)) w.heap.size 25 #[.int .i64 s.nb, .int .i64 s.nn, .int .i64 s.ns, .slice Ab s.bs.length cb, .slice An s.ts.length cn] := Blk.new_ w 25 #[.int .i64 s.nb, .int .i64 s.nn, .int .i64 s.ns, .slice Ab s.bs.length cb, .slice An s.ts.length cn]
  have S1 : ShR (w.alloc (.cells #[.int .i64 s.nb, .int .i64 s.nn, .int .i64 s.ns, .slice Ab s.bs.length cb, .slice An s.ts.length cn] 25)) ((w.alloc (.cells #[.int .i64 s.nb, .int .i64 s.nn, .int .i64 s.ns, .slice Ab s.bs.length cb, .slice An s.ts.length cn] 25))).heap.size (.agg #[.int .i64 s.nb, .int .i64 s.nn, .int .i64 s.ns, .slice Ab s.bs.length cb, .slice An s.ts.length cn]) s := hS0.next HB
  obtain ⟨es, hel, hse, hnt⟩ := hN.ex
  simp only [hn, hbn] at HB B1 S1 hel ⊢
  have hn12 : n ≤ 12 := by have := hF.tl; omega
  have HEL := Lib.hid hel
  have HN := Lib.hid hn
  have HM : Hid (rMayB s = true) := Lib.hid ((rMay_eq s).trans hM)
  have HZ := Lib.hid hz
  have HFF := Lib.hid hF
  clear hM hn hbn hS0 hel hB hF hz hN hcb hmb hcn hmn
  go_enter Tryz.func20, Tryz.ntmps20
  go_upto_region 3 with (go_at_call 45; ((with_reducible refine (rMay_any s _ _ S1 HZ.out _ HM.out).mono ?_); rintro e' wm ⟨rfl, b4⟩; have S1 := S1.next b4; have B1 := B1.below b4 B1.lt; have HB := btr HB HB.size b4; (try clear k0 k1 k2 k3 k4); have k0 := B1.cell_ 0; have k1 := B1.cell_ 1; have k2 := B1.cell_ 2; have k3 := B1.cell_ 3; have k4 := B1.cell_ 4; simp at k0 k1 k2 k3 k4; clear b4))
  have BT := B1
  have HBT := HB
  clear S1 B1 HB k0 k1 k2 k3 k4
  go_wp2_with fail
  go_loopw [3, 4] (fun nv i wr => ∃ (k m c : Nat) (A : Option Addr), k ≤ n ∧ i = .int .i64 k ∧ nv = .slice A m c ∧ Hid (m = (nmsTo s k).length) ∧ m ≤ 4 * k ∧ m ≤ c ∧ c ≤ maxLen ∧ (m = 0 → A = none ∧ c = 0) ∧ Sl wr wr.heap.size A ((nmsTo s k).map strV) ∧ Below wm.heap.size wm wr) (fun _ i _ => n - (intOf i).toNat)
  case atStart => exact ⟨0, 0, 0, none, by omega, rfl, rfl, Lib.hid rfl, by omega, by omega, by unfold maxLen; omega, fun _ => ⟨rfl, rfl⟩, Or.inl rfl, Below.refl _ _⟩
  case round =>
    obtain ⟨k, m, c, A, hk, rfl, rfl, HMM, hmk, hmc, hcm, h0, hL, HBr⟩ := hrel
    obtain ⟨k0, k1, k2, k3, k4⟩ := cell5 (BT.below HBr BT.lt)
    by_cases hlt : k < n
    · have hlx : k < s.ts.length := by have := HN.out; omega
      have i0 : (0 : Int) ≤ (k : Int) := by omega
      have i1 : (k : Int) < (n : Int) := by omega
      obtain ⟨y, hx⟩ : ∃ y, s.ts[k]? = some y := ⟨_, List.getElem?_eq_getElem hlx⟩
      have hmem : y ∈ s.ts := List.mem_of_getElem? hx
      have hsm := HFF.out.note hmem
      obtain ⟨e0, he⟩ : ∃ e, es[k]? = some e := ⟨_, List.getElem?_eq_getElem (by have := HEL.out; omega)⟩
      obtain ⟨At, ct, As, cs, rfl, hyg, -⟩ := (hnt k y e0 hx he).ex
      obtain ⟨b1, o1, rfl, l1, q1⟩ := hse.at_ (by have := HEL.out; omega)
      obtain ⟨yt, hyt⟩ : ∃ n, y.tg.length = n := ⟨_, rfl⟩
      have HYT := Lib.hid hyt
      have hyt4 : yt ≤ 4 := by rw [← hyt]; exact hsm.1
      have HRW : Hid (∀ w_, Below wm.heap.size wm w_ → w_.cell? ⟨b1, o1 + k * 5 + 3, none⟩ = some (.slice At yt ct)) := Lib.hid (fun w_ h => by
        rw [← hyt]
        exact ((btr HBT HBT.size h).cell (p := ⟨b1, _, none⟩) l1).trans (q1 k _ he 3 _ rfl))
      have HX := Lib.hid hx
      clear hx he q1 hmem hsm hyt hlx
      have HMM0 : Hid (m = (nmIn (nmsTo s k) y.tg 0).length) := Lib.hid HMM.out
      go_wp2_with fail
      go_loopw [3, 5] (fun nv i wr => ∃ (j m c : Nat) (A : Option Addr), j ≤ yt ∧ i = .int .i64 j ∧ nv = .slice A m c ∧ Hid (m = (nmIn (nmsTo s k) y.tg j).length) ∧ m ≤ 4 * k + j ∧ m ≤ c ∧ c ≤ maxLen ∧ (m = 0 → A = none ∧ c = 0) ∧ Sl wr wr.heap.size A ((nmIn (nmsTo s k) y.tg j).map strV) ∧ Below wm.heap.size wm wr) (fun _ i _ => yt - (intOf i).toNat)
      case atStart => exact ⟨0, m, c, A, by omega, rfl, rfl, HMM0, by omega, hmc, hcm, h0, hL, HBr⟩
      case round =>
        clear HMM HMM0 hmk hmc hcm h0 hL HBr k0 k1 k2 k3 k4
        obtain ⟨j, m, c, A, hj, rfl, rfl, HMM, hmk, hmc, hcm, h0, hL, HBr⟩ := hrel
        obtain ⟨k0, k1, k2, k3, k4⟩ := cell5 (BT.below HBr BT.lt)
        have y3 := HRW.out _ HBr
        by_cases hlt2 : j < yt
        · have hlx : j < y.tg.length := by have := HYT.out; omega
          have j0 : (0 : Int) ≤ (j : Int) := by omega
          have j1 : (j : Int) < (yt : Int) := by omega
          obtain ⟨x, hp⟩ : ∃ x, y.tg[j]? = some x := ⟨_, List.getElem?_eq_getElem hlx⟩
          obtain ⟨b3, o3, rfl, l3, q3⟩ := hyg.at_ (by rw [List.length_map]; omega)
          have x0 : wr.cell? ⟨b3, o3 + j, none⟩ = some (.string x) := ((btr HBT HBT.size HBr).cell (p := ⟨b3, _, none⟩) l3).trans (q3 j _ (by rw [List.getElem?_map, hp]; rfl))
          have HNX : Hid (nmIn (nmsTo s k) y.tg (j + 1) = insL (nmIn (nmsTo s k) y.tg j) x) := Lib.hid (nmIn_next hp)
          have HLN : Hid ((insL (nmIn (nmsTo s k) y.tg j) x).length ≤ m + 1) := Lib.hid (by rw [HMM.out]; exact insL_len _ _)
          clear hp q3 hlx
          go_wp2_with (go_at_call 59; ((with_reducible refine (into_any (nmIn (nmsTo s k) y.tg j) A m c x wr HMM.out.symm hL hmc hcm (by omega) h0).mono ?_); rintro e' wi ⟨A2, c2, m2, rfl, hm2, hmc2, hcm2, hp2, hL2, bi⟩; have HM2 := Lib.hid hm2; clear hm2))
          go_roundw
          case rel => exact ⟨j + 1, m2, c2, A2, by omega, by go_num, rfl, Lib.hid (by rw [HNX.out]; exact HM2.out), by have := HLN.out; have := HM2.out; omega, hmc2, hcm2, fun h => by omega, (by rw [HNX.out]; exact hL2), btr HBr HBr.size bi⟩
          case measure => simp [intOf]; omega
        · obtain rfl : yt = j := by omega
          have HNX : Hid (nmsTo s (k + 1) = nmIn (nmsTo s k) y.tg yt) := Lib.hid (by rw [← nmsTo_next HX.out, HYT.out])
          go_wp2_with fail
          go_roundw
          case rel => exact ⟨k + 1, m, c, A, by omega, by go_num, rfl, Lib.hid (by rw [HNX.out]; exact HMM.out), by omega, hmc, hcm, h0, (by rw [HNX.out]; exact hL), HBr⟩
          case measure => simp [intOf]; omega
    · obtain rfl : n = k := by omega
      clear hlt
      obtain ⟨N, hNN⟩ : ∃ N, nmsTo s n = N := ⟨_, rfl⟩
      have HNL : Hid (N.length = m) := Lib.hid (by rw [← hNN]; exact HMM.out.symm)
      have HNA : Hid (nmsTo s n = N) := Lib.hid hNN
      rw [hNN] at hL
      clear hNN HMM
      go_wp2_with fail
      clear k0 k1 k2 k3 k4
      obtain ⟨wz, hwz⟩ : ∃ V, V = wr := ⟨_, rfl⟩
      rw [← hwz] at hL HBr ⊢
      clear hwz
      go_loopw [6, 7] (fun ov i wr => ∃ q : Nat, q ≤ m ∧ i = .int .i64 q ∧ Hid (RowI wr wz.heap.size ov ((N.take q).map fun x => tagIt s x.data.toList)) ∧ Below wz.heap.size wz wr) (fun _ i _ => m - (intOf i).toNat)
      case atStart => exact ⟨0, by omega, rfl, Lib.hid (World.ownsRow_nil _ _ _ _), Below.refl _ _⟩
      case round =>
        obtain ⟨q, hq, rfl, HR, HBq⟩ := hrel
        by_cases hlt : q < m
        · have hNl : q < N.length := by have := HNL.out; omega
          have qi0 : (0 : Int) ≤ (q : Int) := by omega
          have qi1 : (q : Int) < (m : Int) := by omega
          obtain ⟨x, hx⟩ : ∃ x, N[q]? = some x := ⟨_, List.getElem?_eq_getElem hNl⟩
          obtain ⟨b4, o4, rfl, l4, q4⟩ := hL.at_ (by rw [List.length_map]; omega)
          have HXC : Hid (∀ w_, Below wz.heap.size wz w_ → w_.cell? ⟨b4, o4 + q, none⟩ = some (.string x)) := Lib.hid (fun w_ h => (h.cell (p := ⟨b4, _, none⟩) l4).trans (q4 q _ (by rw [List.getElem?_map, hx]; rfl)))
          have HX := Lib.hid hx
          clear hx q4 hNl
          go_wp2_with fail
          obtain ⟨wq, hwq⟩ : ∃ V, V = wr := ⟨_, rfl⟩
          rw [← hwq] at HR HBq ⊢
          clear hwq
          have HBz := btr HBr HBr.size HBq
          go_loopw [8, 9] (fun cv i wr => ∃ k cv9 : Nat, k ≤ n ∧ i = .int .i64 k ∧ cv = .int .i64 cv9 ∧ Hid (hvTo s x k = cv9) ∧ cv9 ≤ k ∧ Below wq.heap.size wq wr) (fun _ i _ => n - (intOf i).toNat)
          case atStart => exact ⟨0, 0, by omega, rfl, rfl, Lib.hid rfl, by omega, Below.refl _ _⟩
          case round =>
            obtain ⟨k, cv9, hk, rfl, rfl, HC, hck, hwr⟩ := hrel
            have HBw := btr HBq HBq.size hwr
            have HBv := btr HBr HBr.size HBw
            have x0 := HXC.out _ HBw
            obtain ⟨k0, k1, k2, k3, k4⟩ := cell5 (BT.below HBv BT.lt)
            by_cases hlt2 : k < n
            · have hlx : k < s.ts.length := by have := HN.out; omega
              have i0 : (0 : Int) ≤ (k : Int) := by omega
              have i1 : (k : Int) < (n : Int) := by omega
              obtain ⟨y, hy⟩ : ∃ y, s.ts[k]? = some y := ⟨_, List.getElem?_eq_getElem hlx⟩
              have hsm := HFF.out.note (List.mem_of_getElem? hy)
              obtain ⟨e0, he⟩ : ∃ e, es[k]? = some e := ⟨_, List.getElem?_eq_getElem (by have := HEL.out; omega)⟩
              obtain ⟨At, ct, As, cs, rfl, hyg, -⟩ := (hnt k y e0 hy he).ex
              obtain ⟨b1, o1, rfl, l1, q1⟩ := hse.at_ (by have := HEL.out; omega)
              obtain ⟨yt, hyt⟩ : ∃ n, y.tg.length = n := ⟨_, rfl⟩
              have HRY : Hid (∀ w_, Below wq.heap.size wq w_ → w_.cell? ⟨w.heap.size, 4, none⟩ = some (.slice (some ⟨b1, o1, none⟩) n cn) ∧ w_.cell? ⟨b1, o1 + k * 5 + 3, none⟩ = some (.slice At yt ct) ∧ w_.cell? ⟨b4, o4 + q, none⟩ = some (.string x)) := Lib.hid (fun w_ h => by
                have hz1 := btr HBz HBz.size h
                have hz9 := btr HBT HBT.size hz1
                obtain ⟨d0, d1, d2, d3, d4⟩ := cell5 (BT.below hz1 BT.lt)
                refine ⟨d4, ?_, HXC.out _ (btr HBq HBq.size h)⟩
                rw [← hyt]
                exact (hz9.cell (p := ⟨b1, _, none⟩) l1).trans (q1 k _ he 3 _ rfl))
              obtain ⟨T, hT⟩ : ∃ T, hasB y.tg x = T := ⟨_, rfl⟩
              have HGO : Hid (∀ w_, Below wq.heap.size wq w_ → Calls Tryz.prog 60 #[.slice At yt ct, .string x] w_ fun e' w' => e' = .returned (.bool T) ∧ w' = w_) := Lib.hid (fun w_ h => by
                have hz9 := btr HBT HBT.size (btr HBz HBz.size h)
                exact rhas_go y.tg At yt ct x w_ hyt ((hyg.below hz9).mono_ hz9.size) (by have := hsm.1; omega) T hT)
              have HNX : Hid (hvTo s x (k + 1) = cv9 + if T then 1 else 0) := Lib.hid (by rw [hvTo_next hy, HC.out, hT])
              have HE := drew_below hwr
              have QD : (Below wq.heap.size wq wr.drew ∧ wr.drew.cell? ⟨w.heap.size, 4, none⟩ = some (.slice (some ⟨b1, o1, none⟩) n cn) ∧ wr.drew.cell? ⟨b1, o1 + k * 5 + 3, none⟩ = some (.slice At yt ct) ∧ wr.drew.cell? ⟨b4, o4 + q, none⟩ = some (.string x)) := ⟨HE, HRY.out _ HE⟩
              clear hy hsm he q1 hyt hT hlx
              go_upto_region 19 with fail
              go_cut [65] (fun v wx => v = .bool T ∧ Below wq.heap.size wq wx)
              case first =>
                refine wp_region_noPanic ?_
                refine wp_region_held_drew (S := (fun w_ => Below wq.heap.size wq w_ ∧ w_.cell? ⟨w.heap.size, 4, none⟩ = some (.slice (some ⟨b1, o1, none⟩) n cn) ∧ w_.cell? ⟨b1, o1 + k * 5 + 3, none⟩ = some (.slice At yt ct) ∧ w_.cell? ⟨b4, o4 + q, none⟩ = some (.string x))) (by kernel_rfl) ?_ (fun hHeld => ?_)
                · (first | with_reducible exact QD | with_reducible exact hNext | exact hHeld | assumption)
                refine tk 0 ?_; try simp only [Act.put, pz1, pz2, pz3]
                refine tk 1 ?_; try simp only [Act.put, pz1, pz2, pz3]
                refine tk 2 ?_; try simp only [Act.put, pz1, pz2, pz3]
                refine tk 3 ?_; try simp only [Act.put, pz1, pz2, pz3]
                refine tk 4 ?_; try simp only [Act.put, pz1, pz2, pz3]
                refine tk 5 ?_; try simp only [Act.put, pz1, pz2, pz3]
                refine tk 6 ?_; try simp only [Act.put, pz1, pz2, pz3]
                refine tk 7 ?_; try simp only [Act.put, pz1, pz2, pz3]
                refine tk 8 ?_; try simp only [Act.put, pz1, pz2, pz3]
                refine tk 9 ?_; try simp only [Act.put, pz1, pz2, pz3]
                refine wpAnyH_ready (rs := [10]) (by kernel_rfl) (by simp) ?_
                refine AllReadyH.cons (o := ⟨some 65, .call { callee := .value (.func 60), args := #[.tmp 60, .tmp 64], argTypes := #[38, 9] }, 4, "ref.go:163", #[⟨5, .data⟩, ⟨9, .data⟩], none⟩) rfl (fun K hK => ?_) AllReadyH.nil
                go_simp
                (go_at_call 60; ((with_reducible refine (HGO.out _ hHeld.1).mono ?_); rintro e' w6 ⟨rfl, e6⟩; rw [e6]; have hNext := hHeld))
                go_wp2_with fail
                refine hK.out _ _ ?_ (fun hNew => ?_)
                · (first | with_reducible exact QD | with_reducible exact hNext | exact hHeld | assumption)
                clear hK K hHeld
                have hHeld := hNew
                clear hNew
                try simp only [Act.put, pz1, pz2, pz3]
                refine wpAnyH_done (by kernel_rfl) ?_ _
                refine NoPanic.normal ?_
                go_wp2_with fail
                go_meet
                exact ⟨rfl, hHeld.1⟩
              case rest =>
                obtain ⟨rfl, HBc⟩ := hcut
                clear QD HE hwr HBw HBv k0 k1 k2 k3 k4 x0
                cases T
                · go_wp2_with fail
                  go_roundw
                  case rel => exact ⟨k + 1, cv9, by omega, by go_num, rfl, Lib.hid (by rw [HNX.out]; rfl), by omega, HBc⟩
                  case measure => simp [intOf]; omega
                · go_wp2_with fail
                  go_roundw
                  case rel => exact ⟨k + 1, cv9 + 1, by omega, by go_num, by go_num, Lib.hid (by rw [HNX.out]; rfl), by omega, HBc⟩
                  case measure => simp [intOf]; omega
            · obtain rfl : n = k := by omega
              have HTI : Hid (tagIt s x.data.toList = ⟨(cv9 : Int), x⟩) := Lib.hid (by
                have h1 := hvTo_all HFF.out x
                rw [HN.out, HC.out] at h1
                unfold tagIt
                rw [← h1, show bOf x.data.toList = x from data_inj (by rw [bOf_l])])
              obtain ⟨L, hLL⟩ : ∃ L, (N.take q).map (fun x => tagIt s x.data.toList) = L := ⟨_, rfl⟩
              rw [hLL] at HR
              have hlq : L.length = q := by rw [← hLL, List.length_map, List.length_take]; have := HNL.out; omega
              have HLN : Hid ((N.take (q + 1)).map (fun x => tagIt s x.data.toList) = L ++ [⟨(cv9 : Int), x⟩]) := Lib.hid (by rw [List.take_add_one, HX.out, List.map_append, hLL, ← HTI.out]; rfl)
              have hon : wr.ownsRow wz.heap.size 50 2 _ L.length (L.flatMap itC) := own_belowW HR.out hwr
              have hzq := HBw.size
              clear hLL hwr hlt2
              go_wp2_with (at_builtin; obtain ⟨ti0, hi, hz0, hz1, hz2⟩ := info_parts infoIt; refine wpList_app _ rfl (.tmp 68) (.tmp 75) _ rfl wz.heap.size 50 ti0 _ 2 24 Tryz.underlying29 hi hz0 hz1 hz2 rfl (by decide) _ L.length (L.flatMap itC) rfl (hon.alloc _) _ 1 _ (itC ⟨(cv9 : Int), x⟩) rfl (rd_newI _ ⟨(cv9 : Int), x⟩ (by simp)) (one1I _) (by unfold maxLen; omega) (by omega) (by simp; omega) ?_; intro v' w' ho' hg' hv'; clear hi hz0 hz1 hz2)
              have HF : Below wz.heap.size wz w' := (HBw.alloc HBw.size _).trans (below_app (by omega) (by simp; omega) (hon.alloc _) hg')
              have HR2 : Hid (RowI w' wz.heap.size v' ((N.take (q + 1)).map fun x => tagIt s x.data.toList)) := Lib.hid (by rw [HLN.out]; exact RowI.snoc ho')
              clear ho' hg' hv' hon
              go_roundw
              case rel => exact ⟨q + 1, by omega, by go_num, HR2, HF⟩
              case measure => simp [intOf]; omega
        · obtain rfl : m = q := by omega
          have hT9 : (N.take m).map (fun x => tagIt s x.data.toList) = N.map fun x => tagIt s x.data.toList := by rw [List.take_of_length_le (by rw [HNL.out]; exact Nat.le_refl _)]
          have hro := HR.out
          rw [hT9] at hro
          obtain ⟨A7, c7, rfl, hc7, hm7⟩ := own_shape hro
          have HRO := Lib.hid hro
          clear hro hT9 HR
          go_wp2_with fail
          go_ret
          refine ⟨A7, c7, _, rfl, by rw [HNA.out, List.length_map], ?_, btr HBT HBT.size (btr HBr HBr.size HBq)⟩
          rw [HNA.out]
          have h8 : wr.ownsRow wz.heap.size 50 2 (.slice A7 (N.map fun x => tagIt s x.data.toList).length c7) (N.map fun x => tagIt s x.data.toList).length ((N.map fun x => tagIt s x.data.toList).map itC).flatten := by rw [← List.flatMap_def]; exact HRO.out
          have h9 := sle_of_own h8 (itC_len _) (by decide)
          rw [List.map_map] at h9
          exact h9
end Go.Proofs.YteokeghenjobaaaGreatDoor
namespace Go.Proofs.YteokeghenjobaaaGreatDoor
open Go.ChangeShapes Go.WideShapes Go.ChangeAt Go.RowKit
attribute [local go_sem ↓] Go.wp_at_zero Go.wp_at_succ
def KeepR (w w' : World) : Prop := ∀ (g : Nat) (cs : Array Value) (t : TypeId) (fr : Nat × Nat), w.heap[g]? = some (.cells cs t fr) → ∃ cs' : Array Value, w'.heap[g]? = some (.cells cs' t fr) ∧ cs'.size = cs.size
theorem KeepR.refl (w : World) : KeepR w w := fun g cs t fr h => ⟨cs, h, rfl⟩
theorem KeepR.trans {a b c : World} (h : KeepR a b) (k : KeepR b c) : KeepR a c := by
  intro g cs t fr hg
  obtain ⟨c1, h1, h2⟩ := h g cs t fr hg
  obtain ⟨c2, h3, h4⟩ := k g c1 t fr h1
  exact ⟨c2, h3, h4.trans h2⟩
theorem KeepR.alloc_ (w : World) (o : Obj) : KeepR w (w.alloc o) := by
  intro g cs t fr hg
  have hlt : g < w.heap.size := (Array.getElem?_eq_some_iff.1 hg).1
  exact ⟨cs, (((Below.refl w.heap.size w).alloc (Nat.le_refl _) o).block g hlt).trans hg, rfl⟩
theorem KeepR.drew_ (w : World) : KeepR w w.drew := KeepR.refl w
theorem KeepR.row_ (w : World) (g : Nat) (cs old : Array Value) (e : TypeId) (fr : Nat × Nat) (hg : w.heap[g]? = some (.cells old e fr)) (hs : cs.size = old.size) : KeepR w (w.setRow g cs) := by
  intro k c2 t2 fr2 hk
  by_cases h : k = g
  · subst h
    rw [hg] at hk
    cases hk
    exact ⟨cs, setRow_heap w k old cs e fr hg, hs⟩
  · exact ⟨c2, (setRow_other w g k cs h).trans hk, rfl⟩
theorem KeepR.set_ {w : World} {g : Nat} {cur : Array Value} {e : TypeId} (hg : w.heap[g]? = some (.cells cur e (0, 0))) (j : Nat) (u : Value) : KeepR w (w.setCell ⟨g, j, none⟩ u) := by
  intro k c2 t2 fr2 hk
  by_cases h : k = g
  · subst h
    rw [hg] at hk
    cases hk
    exact ⟨_, heap_setCell_same w k j cur e u hg, by simp⟩
  · have hlt : k < w.heap.size := (Array.getElem?_eq_some_iff.1 hk).1
    exact ⟨c2, ((set1_grown w g j u).block k hlt (fun h2 => h (by injection h2))).trans hk, rfl⟩
theorem own_block {w : World} {base C n c g : Nat} {e : TypeId} {xs : List Value} (h : w.ownsRow base e C (.slice (some ⟨g, 0, none⟩) n c) n xs) : ∃ cur, w.heap[g]? = some (.cells cur e (0, 0)) := by
  rcases h.2 with ⟨h', _⟩ | ⟨g', cap', cur, h', _, hg, _⟩
  · simp at h'
  · simp only [Value.slice.injEq, Option.some.injEq, Addr.mk.injEq, and_true, true_and] at h'
    obtain ⟨rfl, rfl⟩ := h'
    exact ⟨cur, hg⟩
theorem own_keepR {w w' : World} {base C n : Nat} {e : TypeId} {v : Value} {xs : List Value} (h : w.ownsRow base e C v n xs) (hk : KeepR w w') : ∃ ys, w'.ownsRow base e C v n ys := by
  rcases h.2 with ⟨h1, h2⟩ | ⟨g, cap, cur, h1, h2, h3, h4, h5, h6, h7⟩
  · exact ⟨xs, h.1, Or.inl ⟨h1, h2⟩⟩
  · obtain ⟨c2, h8, h9⟩ := hk g cur e (0, 0) h3
    refine ⟨c2.toList.take (n * C), ?_, Or.inr ⟨g, cap, c2, h1, h2, h8, h4, h5, h9.trans h6, rfl⟩⟩
    rw [List.length_take, Array.length_toList, h9, h6]
    exact Nat.min_eq_left (Nat.mul_le_mul_right _ h4)
section
variable {P : Program} (w : World)
theorem app_keep (base : Nat) (t ty e : TypeId) (i : TypeInfo) (z : Value) (size bytes : Nat) (ht : P.underlying t = some (.slice e)) (hi : P.info? e = some i) (hz : i.zero = some z)
    (hsize : i.size = size) (hby : i.bytes = bytes) (hsz : 0 < size)
    (v : Value) (n : Nat) (xs : List Value) (hown : w.ownsRow base e size v n xs)
    (a : Addr) (m c : Nat) (news : List Value) (hl : news.length = m * size) (hnews : ∀ j u, news[j]? = some u → w.cell? (a.add j) = some u) (h1 : ∀ u ∈ news, u.oneCell' = true) (hm : 0 < m)
    (h63 : n + m ≤ maxLen) (hbytes : (n + m) * bytes ≤ 140737488355328) {v' : Value} {w' : World} (hrun : (Builtin.append_ #[t, t] ty #[v, .slice (some a) m c]).run P w = .ok v' w') : KeepR w w' := by
  subst hsize
  subst hby
  have hsmall : n + m ≤ 9223372036854775807 := by simp only [maxLen] at h63; omega
  rcases hown.2 with ⟨rfl, rfl⟩ | ⟨g, cap, cur, rfl, hbg, hg, hnc, hcm, hcs, htake⟩
  · have hr := run_append_nil (P := P) w t ty e i z ht hi hz a m c news hl hnews hm (by omega) (by have hb := hbytes; simp only [Nat.zero_add] at hb; omega)
    rw [hr] at hrun
    injection hrun with h2 h3
    rw [← h3]
    exact (KeepR.drew_ w).trans (KeepR.alloc_ _ _)
  · by_cases hroom : n + m ≤ cap
    · have hfit : n * i.size + news.length ≤ cur.size := by rw [hl, hcs, ← Nat.add_mul]; exact Nat.mul_le_mul_right _ hroom
      have hr := run_append_room (P := P) w t ty e i ht hi g n cap cur hg a m c news hl hnews h1 hroom hfit
      rw [hr] at hrun
      injection hrun with h2 h3
      rw [← h3]
      refine KeepR.row_ w g _ cur e _ hg ?_
      simp only [List.size_toArray, List.length_append, List.length_take, List.length_drop, Array.length_toList]
      omega
    · have holds : ∀ j u, xs[j]? = some u → w.cell? ((⟨g, 0, none⟩ : Addr).add j) = some u := hown.cells (g := g) rfl
      have hr := run_append_grow (P := P) w t ty e i z ht hi hz ⟨g, 0, none⟩ n cap xs hown.1 holds a m c news hl hnews (by omega) (by omega) (growslice_fits (by omega) hbytes)
      rw [hr] at hrun
      injection hrun with h2 h3
      rw [← h3]
      exact (KeepR.drew_ w).trans (KeepR.alloc_ _ _)
theorem wpList_appK {ops : Array Oper} {rest : List Oper} {o : Oper} {a : Act} {Q : Exit → Act → World → Prop} (hgd : o.guard = none) (s x : Operand) (t : TypeId)
    (ho : o.op = .call { callee := .builtin .append, args := #[s, x], argTypes := #[t, t] })
    (base : Nat) (e : TypeId) (i : TypeInfo) (z : Value) (size bytes : Nat) (ht : P.underlying t = some (.slice e)) (hi : P.info? e = some i) (hz : i.zero = some z)
    (hsize : i.size = size) (hby : i.bytes = bytes) (hzs : z.cells.size = size) (hsz : 0 < size)
    (v : Value) (n : Nat) (xs : List Value) (hs : a.eval s = v) (hown : w.ownsRow base e size v n xs)
    (g c : Nat) (news : List Value) (hx : a.eval x = .slice (some ⟨g, 0, none⟩) 1 c) (hr : Rd w (some ⟨g, 0, none⟩) 1 size news) (h1 : ∀ u ∈ news, u.oneCell' = true)
    (h63 : n + 1 ≤ maxLen) (hbytes : (n + 1) * bytes ≤ 140737488355328) (hbase : base ≤ w.heap.size)
    (h : ∀ v' w', w'.ownsRow base e size v' (n + 1) (xs ++ news) → w.grownBy w' v.ownBlock → KeepR w w' → wpList P ops Q rest (a.put o.dst v') w') : wpList P ops Q (o :: rest) a w := by
  refine wpList_plain hgd fun K hK => ?_
  obtain ⟨v', w', hrun, h2, h3, h4⟩ := run_app (P := P) w base t o.type e i z size bytes ht hi hz hsize hby hzs hsz v n xs hown (some ⟨g, 0, none⟩) 1 c news hr h1 h63 hbytes hbase
  have hcells : ∀ j u, news[j]? = some u → w.cell? ((⟨g, 0, none⟩ : Addr).add j) = some u := by
    intro j u hu
    rcases hr.2 with h | ⟨b, off, h, hc⟩
    · omega
    · cases h
      have := hc j u hu
      unfold Addr.add
      split
      · rename_i h0
        rw [h0] at this
        simpa using this
      · exact this
  have hk := app_keep (P := P) w base t o.type e i z size bytes ht hi hz hsize hby hsz v n xs hown ⟨g, 0, none⟩ 1 c news hr.1 hcells h1 (by decide) h63 hbytes hrun
  unfold Oper.wp execOp
  simp only [ho, resolve, invoke, builtin, Sem.run_bind, Sem.run_pure, Result.andThen_ok, List.map_toArray, List.map_cons, List.map_nil, hs, hx, hrun]
  exact hK _ _ (h v' w' h2 h3 hk)
end
theorem rd_new1 (w : World) (u : Value) (e : TypeId) {g : Nat} (hg : g = w.heap.size) : Rd (w.alloc (.cells #[u] e)) (some ⟨g, 0, none⟩) 1 1 [u] := by
  subst hg
  exact Rd.one (by simp)
theorem rd_new2 (w : World) (u u2 : Value) (e : TypeId) {g : Nat} (hg : g = w.heap.size) : Rd (w.alloc (.cells #[u, u2] e)) (some ⟨g, 0, none⟩) 1 2 [u, u2] := by
  subst hg
  refine ⟨rfl, Or.inr ⟨_, 0, rfl, fun j x hj => ?_⟩⟩
  rw [Joins.cell_of_block (heap_alloc_new w _), Nat.zero_add]
  simpa using hj
theorem overT_any (A : Option Addr) (n cap : Nat) (xs : List Value) (base : Nat) (w : World) (ho : w.ownsRow base 9 1 (.slice A n cap) n xs) (hb : base ≤ w.heap.size) (hn : n ≤ 100000) :
    Calls Tryz.prog 26 #[.slice A n cap] w fun e' w' => e' = .returned (.tuple #[]) ∧ Below base w w' ∧ w.grownBy w' (Value.slice A n cap).ownBlock ∧ KeepR w w' := by
  obtain ⟨i0, hi, hz0, hz1, hz2⟩ := info_parts info_clStr
  go_enter Tryz.func26, Tryz.ntmps26
  go_wp2_with fail
  go_loopw [2] (fun i wr => ∃ (k : Nat) (ys : List Value), k ≤ n ∧ i = .int .i64 k ∧ wr.ownsRow base 9 1 (.slice A n cap) n ys ∧ Below base w wr ∧ w.grownBy wr (Value.slice A n cap).ownBlock ∧ Hid (KeepR w wr)) (fun i _ => n - (intOf i).toNat)
  case atStart => exact ⟨0, xs, Nat.zero_le _, rfl, ho, Below.refl _ _, World.grownBy.refl w _, Lib.hid (KeepR.refl w)⟩
  case round =>
    obtain ⟨k, ys, hk, rfl, hr, hB, hG, hK⟩ := hrel
    clear ho
    by_cases hlt : k < n
    · have hyl : ys.length = n * 1 := hr.1
      obtain ⟨g, cap', hg, -⟩ := hr.form (by omega)
      cases hg
      obtain ⟨cur, hcur⟩ := own_block hr
      have c0 : wr.cell? ⟨g, k, none⟩ = some (ys.getD (k) (.bool false)) := by
        rw [hr.cellAt (k) (by omega)]
        simp [show k < ys.length by omega]
      have f0 : wr.frozen? ⟨g, k, none⟩ = false := hr.frozenAt (k)
      have i0' : (0 : Int) ≤ (k : Int) := by omega
      have i1 : (k : Int) < (n : Int) := by omega
      have hst := hr.stored k (.string ⟨#[111, 118, 101, 114]⟩)
      have hgl := (hr.lt g rfl).1
      have HC := Lib.hid hcur
      clear hyl hcur
      go_wp2_with fail
      go_roundw
      case rel => exact ⟨k + 1, ys.set k (.string ⟨#[111, 118, 101, 114]⟩), by omega, by go_num, hst.1, hB.setCell hgl _, hG.trans hst.2, Lib.hid (hK.out.trans (KeepR.set_ HC.out _ _))⟩
      case measure => simp [intOf]; omega
    · go_wp2_with (at_builtin; refine wpList_appK _ rfl (.tmp 12) (.tmp 13) _ rfl base 9 i0 _ 1 16 Tryz.underlying38 hi hz0 hz1 hz2 rfl (by decide) _ _ _ rfl (hr.alloc _) _ _ [.string ⟨#[111, 118, 101, 114]⟩] rfl (rd_new1 _ _ _ (by simp)) (by simp [Value.oneCell']) (by unfold maxLen; omega) (by omega) (by simp; have := hB.size; omega) ?_; intro s2 w2 ho2 hg2 hk2)
      have HF : Below base w w2 := (hB.alloc (by have := hB.size; omega) _).trans (below_app (Nat.le_refl _) (by simp; have := hB.size; omega) (hr.alloc _) hg2)
      have HG2 : w.grownBy w2 (Value.slice A n cap).ownBlock := hG.trans (World.grownBy.trans (grown_below ((Below.refl _ _).alloc (Nat.le_refl _) _)) hg2)
      exact bodyPost_end (v := .tuple #[]) (by simp [results, Tryz.results26, go_sem]) rfl ⟨rfl, HF, HG2, (hK.out.trans (KeepR.alloc_ _ _)).trans hk2⟩
theorem overIt_any (A : Option Addr) (n cap : Nat) (xs : List Value) (base : Nat) (w : World) (ho : w.ownsRow base 50 2 (.slice A n cap) n xs) (hb : base ≤ w.heap.size) (hn : n ≤ 100000) :
    Calls Tryz.prog 25 #[.slice A n cap] w fun e' w' => e' = .returned (.tuple #[]) ∧ Below base w w' ∧ w.grownBy w' (Value.slice A n cap).ownBlock ∧ KeepR w w' := by
  obtain ⟨i0, hi, hz0, hz1, hz2⟩ := info_parts infoIt
  go_enter Tryz.func25, Tryz.ntmps25
  go_wp2_with fail
  go_loopw [2] (fun i wr => ∃ (k : Nat) (ys : List Value), k ≤ n ∧ i = .int .i64 k ∧ wr.ownsRow base 50 2 (.slice A n cap) n ys ∧ Below base w wr ∧ w.grownBy wr (Value.slice A n cap).ownBlock ∧ Hid (KeepR w wr)) (fun i _ => n - (intOf i).toNat)
  case atStart => exact ⟨0, xs, Nat.zero_le _, rfl, ho, Below.refl _ _, World.grownBy.refl w _, Lib.hid (KeepR.refl w)⟩
  case round =>
    obtain ⟨k, ys, hk, rfl, hr, hB, hG, hK⟩ := hrel
    clear ho
    by_cases hlt : k < n
    · have hyl : ys.length = n * 2 := hr.1
      obtain ⟨g, cap', hg, -⟩ := hr.form (by omega)
      cases hg
      obtain ⟨cur, hcur⟩ := own_block hr
      have c0 : wr.cell? ⟨g, k * 2, none⟩ = some (ys.getD (k * 2) (.bool false)) := by
        rw [hr.cellAt (k * 2) (by omega)]
        simp [show k * 2 < ys.length by omega]
      have f0 : wr.frozen? ⟨g, k * 2, none⟩ = false := hr.frozenAt (k * 2)
      have c1 : wr.cell? ⟨g, k * 2 + 1, none⟩ = some (ys.getD (k * 2 + 1) (.bool false)) := by
        rw [hr.cellAt (k * 2 + 1) (by omega)]
        simp [show k * 2 + 1 < ys.length by omega]
      have f1 : wr.frozen? ⟨g, k * 2 + 1, none⟩ = false := hr.frozenAt (k * 2 + 1)
      have i0' : (0 : Int) ≤ (k : Int) := by omega
      have i1 : (k : Int) < (n : Int) := by omega
      have hst := hr.stored (k * 2) (.int .i64 (-9))
      have hst2 := hst.1.stored (k * 2 + 1) (.string ByteArray.empty)
      obtain ⟨cur2, hcur2⟩ := own_block hst.1
      have HC2 := Lib.hid hcur2
      clear hcur2
      have hgl := (hr.lt g rfl).1
      have HC := Lib.hid hcur
      clear hyl hcur
      go_wp2_with fail
      go_roundw
      case rel => exact ⟨k + 1, (ys.set (k * 2) (.int .i64 (-9))).set (k * 2 + 1) (.string ByteArray.empty), by omega, by go_num, hst2.1, (hB.setCell hgl _).setCell hgl _, (hG.trans hst.2).trans hst2.2, Lib.hid ((hK.out.trans (KeepR.set_ HC.out _ _)).trans (KeepR.set_ HC2.out _ _))⟩
      case measure => simp [intOf]; omega
    · go_wp2_with (at_builtin; refine wpList_appK _ rfl (.tmp 13) (.tmp 15) _ rfl base 50 i0 _ 2 24 Tryz.underlying29 hi hz0 hz1 hz2 rfl (by decide) _ _ _ rfl (hr.alloc _) _ _ [.int .i64 (-9), .string ByteArray.empty] rfl (rd_new2 _ _ _ _ (by simp)) (by simp [Value.oneCell']) (by unfold maxLen; omega) (by omega) (by simp; have := hB.size; omega) ?_; intro s2 w2 ho2 hg2 hk2)
      have HF : Below base w w2 := (hB.alloc (by have := hB.size; omega) _).trans (below_app (Nat.le_refl _) (by simp; have := hB.size; omega) (hr.alloc _) hg2)
      have HG2 : w.grownBy w2 (Value.slice A n cap).ownBlock := hG.trans (World.grownBy.trans (grown_below ((Below.refl _ _).alloc (Nat.le_refl _) _)) hg2)
      exact bodyPost_end (v := .tuple #[]) (by simp [results, Tryz.results25, go_sem]) rfl ⟨rfl, HF, HG2, (hK.out.trans (KeepR.alloc_ _ _)).trans hk2⟩
theorem KeepR.setA (w : World) (g j : Nat) (u : Value) : KeepR w (w.setCell ⟨g, j, none⟩ u) := by
  intro k c2 t2 fr2 hk
  by_cases h : k = g
  · subst h
    have hlt : k < w.heap.size := (Array.getElem?_eq_some_iff.1 hk).1
    have hv : w.heap[k] = .cells c2 t2 fr2 := (Array.getElem?_eq_some_iff.1 hk).2
    refine ⟨c2.setIfInBounds j u, ?_, by simp⟩
    unfold World.setCell
    rw [Array.getElem?_eq_getElem (by simpa using hlt), Array.getElem_modify]
    simp [hv]
  · have hlt : k < w.heap.size := (Array.getElem?_eq_some_iff.1 hk).1
    exact ⟨c2, ((set1_grown w g j u).block k hlt (fun h2 => h (by injection h2))).trans hk, rfl⟩
theorem KeepR.st5_ (w : World) (g o : Nat) (a0 a1 a2 a3 a4 : Value) : KeepR w (st5 w g o a0 a1 a2 a3 a4) := ((((KeepR.setA w _ _ _).trans (KeepR.setA _ _ _ _)).trans (KeepR.setA _ _ _ _)).trans (KeepR.setA _ _ _ _)).trans (KeepR.setA _ _ _ _)
structure OvI (W : World) (base g0 gn m k : Nat) (cs : Array Value) (wr : World) : Prop where
  be : Below base W wr
  kp : KeepR W wr
  bx : Blk wr g0 25 cs
  ce : ∀ (j : Nat) (u : Value), k * 5 ≤ j → W.cell? ⟨gn, j, none⟩ = some u → wr.cell? ⟨gn, j, none⟩ = some u
theorem OvI.row {W wr w2 : World} {base g0 gn m k : Nat} {cs : Array Value} {row : Option Nat} (h : OvI W base g0 gn m k cs wr) (hb : Below base wr w2) (hg : wr.grownBy w2 row) (hk : KeepR wr w2) (h0 : row ≠ some g0) (hn : row ≠ some gn) : OvI W base g0 gn m k cs w2 :=
  ⟨h.be.trans hb, h.kp.trans hk, h.bx.grownR hg h0, fun j u hj hu => hg.cell (h.ce j u hj hu) (fun e => hn e.symm)⟩
end Go.Proofs.YteokeghenjobaaaGreatDoor
namespace Go.Proofs.YteokeghenjobaaaGreatDoor
open Go.ChangeShapes Go.WideShapes Go.ChangeAt Go.RowKit
attribute [local go_sem ↓] Go.wp_at_zero Go.wp_at_succ
attribute [local go_sem] Oper.semAt_some
theorem num_any (z : Int) (w : World) : Calls Tryz.prog 19 #[.int .i64 z] w fun e' w' => e' = .returned (.int .i64 z) ∧ Below w.heap.size w w' := by
  go_enter Tryz.func19, Tryz.ntmps19
  go_wp2_with fail
  go_ret
  exact ⟨rfl, Below.refl _ _⟩
theorem sz_of_great {s : Sf} (h : greatS s = false) : SzF s := by
  have h1 : s.bs.length ≤ 10 := by
    rcases Nat.lt_or_ge 10 s.bs.length with h2 | h2
    · rw [gS_1 h2] at h; cases h
    · exact h2
  have h2 : s.ts.length ≤ 16 := by
    rcases Nat.lt_or_ge 16 s.ts.length with h3 | h3
    · rw [gS_2 h3] at h; cases h
    · exact h3
  have h3 : s.bs.any bigB = false := by
    cases h4 : s.bs.any bigB
    · rfl
    · rw [gS_b h1 h4] at h; cases h
  have h4 : s.ts.any bigN = false := by
    cases h5 : s.ts.any bigN
    · rfl
    · rw [gS_n h2 h5] at h; cases h
  have h5 : ∀ n ∈ s.ts, n.nm.size ≤ 60 ∧ n.tg.length ≤ 8 ∧ (∀ t ∈ n.tg, t.size ≤ 60) ∧ n.sh.length ≤ 12 := by
    intro n hn
    have h6 := List.any_eq_false.1 h4 n hn
    unfold bigN greatT at h6
    simp only [Bool.or_eq_true, decide_eq_true_eq, not_or, Bool.not_eq_true] at h6
    refine ⟨by omega, by omega, fun t ht => ?_, by omega⟩
    have h7 := List.any_eq_false.1 h6.2.1.2 t ht
    unfold bigS at h7
    have h8 : ¬ 60 < t.size := by simpa using h7
    omega
  have h6 : ∀ l : List Nt, (∀ n ∈ l, n.sh.length ≤ 12) → (l.flatMap Nt.sh).length ≤ 12 * l.length := by
    intro l
    induction l with
    | nil => intro _; simp
    | cons n l ih =>
      intro hl
      rw [List.flatMap_cons, List.length_append, List.length_cons]
      have q1 := hl n (by simp)
      have q2 := ih (fun m hm => hl m (by simp [hm]))
      omega
  refine ⟨fun b hb => ?_, fun n hn => ?_, by omega, by omega, ?_⟩
  · have h7 := List.any_eq_false.1 h3 b hb
    unfold bigB at h7
    have h8 : ¬ 60 < b.nm.size := by simpa using h7
    omega
  · obtain ⟨q1, q2, q3, q4⟩ := h5 n hn
    exact ⟨by omega, ⟨fun t ht => by have := q3 t ht; omega, by omega⟩, by omega⟩
  · have := h6 s.ts (fun n hn => (h5 n hn).2.2.2)
    omega
def findR (s : Sf) (q : List UInt8) : List It × Int := match mayS s with
  | false => ([], 2)
  | true => match readL q with
    | none => ([], 5)
    | some ts => (findL s ts, 0)
def kinR (s : Sf) (x : Int) : List It × Int := match mayS s with
  | false => ([], 2)
  | true => match decide (noteAt s x < 0) with
    | true => ([], 4)
    | false => match s.ts[(noteAt s x).toNat]? with
      | none => ([], 0)
      | some of => (knUp s of 4, 0)
def tagsR (s : Sf) : List It := match mayS s with
  | false => []
  | true => (nmsTo s s.ts.length).map fun x => tagIt s x.data.toList
def wordsR (q : List UInt8) : List ByteArray := (wordsL q).map bOf
theorem bO (Q : ByteArray) : bOf Q.data.toList = Q := data_inj (by rw [bOf_l])
theorem findR_len {s : Sf} (q : List UInt8) : (findR s q).1.length ≤ 100000 := by
  unfold findR
  cases hM : mayS s
  · simp
  · cases readL q with
    | none => simp
    | some ts =>
      have := findL_le (mayF_of hM) ts
      show (findL s ts).length ≤ 100000
      omega
theorem kinR_len {s : Sf} (x : Int) : (kinR s x).1.length ≤ 100000 := by
  unfold kinR
  cases hM : mayS s
  · simp
  · cases decide (noteAt s x < 0)
    · cases s.ts[(noteAt s x).toNat]? with
      | none => simp
      | some of =>
        have h1 := knUp_len s of 4
        have h2 := (mayF_of hM).tl
        show (knUp s of 4).length ≤ 100000
        omega
    · simp
theorem tagsR_len {s : Sf} : (tagsR s).length ≤ 100000 := by
  unfold tagsR
  cases hM : mayS s
  · simp
  · obtain ⟨-, -, h3⟩ := ins_fold (tagsA s) [] List.Pairwise.nil
    have e : nmsTo s s.ts.length = (tagsA s).foldl insL [] := by
      unfold nmsTo tagsA
      rw [List.take_length]
    have h4 := flatTake_len (mayF_of hM) s.ts.length
    rw [List.take_length] at h4
    have h5 := (mayF_of hM).tl
    show ((nmsTo s s.ts.length).map _).length ≤ 100000
    rw [List.length_map, e]
    unfold tagsA at h3 ⊢
    (try simp at h3)
    (try simp at h4)
    (try simp)
    omega
theorem wordsR_len {q : List UInt8} (h : q.length ≤ 300) : (wordsR q).length ≤ 100000 := by
  have h1 := (wdsTo_facts q (splitL q).length).2.2
  rw [wdsTo_all] at h1
  have h2 := splitL_len q
  unfold wordsR
  omega
theorem find_all (s : Sf) (v : Value) (Q : ByteArray) (w : World) (hS : ShR w w.heap.size v s) (hT : Tabs w) (hl : Q.size ≤ 300) (L : List It) (e : Int) (n : Nat) (hR : findR s Q.data.toList = (L, e)) (hn : L.length = n) :
    Calls Tryz.prog 12 #[v, .string Q] w fun e' w' => ∃ (A : Option Addr) (c : Nat), e' = .returned (.tuple #[.slice A n c, .int .i64 e]) ∧ w'.ownsRow w.heap.size 50 2 (.slice A n c) n (L.map itC).flatten ∧ Below w.heap.size w w' := by
  subst hn
  have hq : Q.data.toList.length ≤ 100000 := by rw [Array.length_toList]; show Q.size ≤ 100000; omega
  have hb := bO Q
  unfold findR at hR
  cases hM : mayS s
  · rw [hM] at hR
    cases hR
    refine (hb ▸ find_arg s v Q.data.toList w hS hT hM).mono ?_
    rintro e' w' ⟨rfl, h⟩
    exact ⟨none, 0, rfl, (World.ownsRow_nil _ _ _ _), h⟩
  · rw [hM] at hR
    cases hr : readL Q.data.toList with
    | none =>
      simp only [hr] at hR
      cases hR
      refine (hb ▸ find_form s v Q.data.toList w hS hT hM hr hq).mono ?_
      rintro e' w' ⟨rfl, h⟩
      exact ⟨none, 0, rfl, (World.ownsRow_nil _ _ _ _), h⟩
    | some ts =>
      simp only [hr] at hR
      cases hR
      refine (hb ▸ find_any s v Q.data.toList ts w hS hT hM hr hq).mono ?_
      rintro e' w' ⟨A, c, its, rfl, h1, h2, h3, h4⟩
      obtain rfl := uniqF h1 h2 (findL_facts s ts).1 (findL_facts s ts).2
      exact ⟨A, c, rfl, h3, h4⟩
theorem rfind_all (s : Sf) (v : Value) (Q : ByteArray) (w : World) (hS : ShR w w.heap.size v s) (hz : SzF s) (hl : Q.size ≤ 300) (L : List It) (e : Int) (n : Nat) (hR : findR s Q.data.toList = (L, e)) (hn : L.length = n) :
    Calls Tryz.prog 13 #[v, .string Q] w fun e' w' => ∃ (A : Option Addr) (c : Nat), e' = .returned (.tuple #[.slice A n c, .int .i64 e]) ∧ SlE 2 w' w'.heap.size A (L.map itC) ∧ Below w.heap.size w w' := by
  subst hn
  have hq : Q.data.toList.length ≤ 100000 := by rw [Array.length_toList]; show Q.size ≤ 100000; omega
  have hb := bO Q
  unfold findR at hR
  cases hM : mayS s
  · rw [hM] at hR
    cases hR
    refine (hb ▸ rfindr_arg s v Q.data.toList w hS hz hM).mono ?_
    rintro e' w' ⟨rfl, h⟩
    exact ⟨none, 0, rfl, (Or.inl rfl), h⟩
  · rw [hM] at hR
    cases hr : readL Q.data.toList with
    | none =>
      simp only [hr] at hR
      cases hR
      refine (hb ▸ rfindr_form s v Q.data.toList w hS hz hM hq hr).mono ?_
      rintro e' w' ⟨rfl, h⟩
      exact ⟨none, 0, rfl, (Or.inl rfl), h⟩
    | some ts =>
      simp only [hr] at hR
      cases hR
      refine (hb ▸ rfindr_any s v Q.data.toList w hS hz hM ts hr).mono ?_
      rintro e' w' ⟨A, c, n, rfl, hn, h3, h4⟩
      exact ⟨A, c, by rw [hn], h3, h4⟩
theorem kin_all (s : Sf) (v : Value) (x : Int) (w : World) (hS : ShR w w.heap.size v s) (hT : Tabs w) (L : List It) (e : Int) (n : Nat) (hR : kinR s x = (L, e)) (hn : L.length = n) :
    Calls Tryz.prog 14 #[v, .int .i64 x] w fun e' w' => ∃ (A : Option Addr) (c : Nat), e' = .returned (.tuple #[.slice A n c, .int .i64 e]) ∧ w'.ownsRow w.heap.size 50 2 (.slice A n c) n (L.map itC).flatten ∧ Below w.heap.size w w' := by
  subst hn
  unfold kinR at hR
  cases hM : mayS s
  · rw [hM] at hR
    cases hR
    refine (kin_arg s v x w hS hT hM).mono ?_
    rintro e' w' ⟨rfl, h⟩
    exact ⟨none, 0, rfl, (World.ownsRow_nil _ _ _ _), h⟩
  · rw [hM] at hR
    rcases noteAt_none (s := s) (x := x) with hI | ⟨k, of, hI, hof, hid⟩
    · simp only [decide_eq_true hI] at hR
      cases hR
      refine (kin_none s v x w hS hT hM hI).mono ?_
      rintro e' w' ⟨rfl, h⟩
      exact ⟨none, 0, rfl, (World.ownsRow_nil _ _ _ _), h⟩
    · have hd : decide (noteAt s x < 0) = false := decide_eq_false (by omega)
      have ht : (noteAt s x).toNat = k := by omega
      simp only [hd, ht, hof] at hR
      cases hR
      have hF := mayF_of hM
      have hm : of ∈ s.ts := List.mem_of_getElem? hof
      refine (kin_any s v x w hS hT hM k of hI hof).mono ?_
      rintro e' w' ⟨A, c, ks, rfl, h1, h2, h3, h4⟩
      subst hid
      have hk := kin_same hF hm h1 h2
      rw [hk] at h3
      have hl : ks.length = (knUp s of 4).length := by rw [← hk, List.length_map]
      rw [hl] at h3
      exact ⟨A, c, by rw [hl], h3, h4⟩
theorem rkin_all (s : Sf) (v : Value) (x : Int) (w : World) (hS : ShR w w.heap.size v s) (hz : SzF s) (L : List It) (e : Int) (n : Nat) (hR : kinR s x = (L, e)) (hn : L.length = n) :
    Calls Tryz.prog 15 #[v, .int .i64 x] w fun e' w' => ∃ (A : Option Addr) (c : Nat), e' = .returned (.tuple #[.slice A n c, .int .i64 e]) ∧ SlE 2 w' w'.heap.size A (L.map itC) ∧ Below w.heap.size w w' := by
  subst hn
  unfold kinR at hR
  cases hM : mayS s
  · rw [hM] at hR
    cases hR
    refine (rkin_arg s v x w hS hz hM).mono ?_
    rintro e' w' ⟨rfl, h⟩
    exact ⟨none, 0, rfl, (Or.inl rfl), h⟩
  · rw [hM] at hR
    rcases noteAt_none (s := s) (x := x) with hI | ⟨k, of, hI, hof, hid⟩
    · simp only [decide_eq_true hI] at hR
      cases hR
      refine (rkin_none s v x w hS hz hM hI).mono ?_
      rintro e' w' ⟨rfl, h⟩
      exact ⟨none, 0, rfl, (Or.inl rfl), h⟩
    · have hd : decide (noteAt s x < 0) = false := decide_eq_false (by omega)
      have ht : (noteAt s x).toNat = k := by omega
      simp only [hd, ht, hof] at hR
      cases hR
      have hF := mayF_of hM
      have hm : of ∈ s.ts := List.mem_of_getElem? hof
      refine (rkin_any s v x w hS hz hM k of hI hof).mono ?_
      rintro e' w' ⟨A, c, n, rfl, hn, h3, h4⟩
      exact ⟨A, c, by rw [hn], h3, h4⟩
theorem tags_all (s : Sf) (v : Value) (w : World) (hS : ShR w w.heap.size v s) (hT : Tabs w) (L : List It) (n : Nat) (hR : tagsR s = L) (hn : L.length = n) :
    Calls Tryz.prog 16 #[v] w fun e' w' => ∃ (A : Option Addr) (c : Nat), e' = .returned (.slice A n c) ∧ w'.ownsRow w.heap.size 50 2 (.slice A n c) n (L.map itC).flatten ∧ Below w.heap.size w w' := by
  subst hn
  unfold tagsR at hR
  cases hM : mayS s
  · rw [hM] at hR
    cases hR
    refine (tags_bad s v w hS hT hM).mono ?_
    rintro e' w' ⟨rfl, h⟩
    exact ⟨none, 0, rfl, (World.ownsRow_nil _ _ _ _), h⟩
  · rw [hM] at hR
    cases hR
    refine (tags_any s v w hS hT hM).mono ?_
    rintro e' w' ⟨A, c, ks, rfl, h1, h2, h3, h4⟩
    have hk := nmsTo_keys h1 h2
    have e1 : (nmsTo s s.ts.length).map (fun x => tagIt s x.data.toList) = ks.map (tagIt s) := by
      rw [hk, List.map_map]
      refine List.map_congr_left (fun x _ => ?_)
      show tagIt s (bOf x).data.toList = tagIt s x
      rw [bOf_l]
    refine ⟨A, c, by simp only [e1, List.length_map], ?_, h4⟩
    simp only [e1, List.length_map]
    exact h3
theorem rtags_all (s : Sf) (v : Value) (w : World) (hS : ShR w w.heap.size v s) (hz : SzF s) (L : List It) (n : Nat) (hR : tagsR s = L) (hn : L.length = n) :
    Calls Tryz.prog 20 #[v] w fun e' w' => ∃ (A : Option Addr) (c : Nat), e' = .returned (.slice A n c) ∧ SlE 2 w' w'.heap.size A (L.map itC) ∧ Below w.heap.size w w' := by
  subst hn
  unfold tagsR at hR
  cases hM : mayS s
  · rw [hM] at hR
    cases hR
    refine (rtagsr_no s v w hS hz hM).mono ?_
    rintro e' w' ⟨rfl, h⟩
    exact ⟨none, 0, rfl, (Or.inl rfl), h⟩
  · rw [hM] at hR
    cases hR
    refine (rtagsr_any s v w hS hz hM).mono ?_
    rintro e' w' ⟨A, c, n, rfl, hn, h3, h4⟩
    subst hn
    refine ⟨A, c, by rw [List.length_map], ?_, h4⟩
    rw [List.map_map]
    exact h3
theorem words_all (Q : ByteArray) (hl : Q.size ≤ 300) (w : World) (L : List ByteArray) (n : Nat) (hR : wordsR Q.data.toList = L) (hn : L.length = n) :
    Calls Tryz.prog 17 #[.string Q] w fun e' w' => ∃ (A : Option Addr) (c : Nat), e' = .returned (.slice A n c) ∧ w'.ownsRow w.heap.size 9 1 (.slice A n c) n (L.map strV) ∧ Below w.heap.size w w' := by
  have hq : Q.data.toList.length ≤ 100000 := by rw [Array.length_toList]; show Q.size ≤ 100000; omega
  have hb := bO Q
  have hN : (wordsL Q.data.toList).length = n := by rw [← hn, ← hR]; unfold wordsR; rw [List.length_map]
  refine (hb ▸ words_any Q.data.toList hq w).mono ?_
  rintro e' w' ⟨v, rfl, h1, h2⟩
  rw [hN] at h1
  obtain ⟨A, c, rfl, -⟩ := own_shape h1
  refine ⟨A, c, rfl, ?_, h2⟩
  rw [← hR]
  unfold wordsR
  rw [List.map_map]
  exact h1
theorem rwords_all (Q : ByteArray) (hl : Q.size ≤ 300) (w : World) (L : List ByteArray) (n : Nat) (hR : wordsR Q.data.toList = L) (hn : L.length = n) :
    Calls Tryz.prog 22 #[.string Q] w fun e' w' => ∃ (A : Option Addr) (c : Nat), e' = .returned (.slice A n c) ∧ Sl w' w'.heap.size A (L.map strV) ∧ Below w.heap.size w w' := by
  have hq : Q.data.toList.length ≤ 100000 := by rw [Array.length_toList]; show Q.size ≤ 100000; omega
  have hb := bO Q
  have hN : (wordsL Q.data.toList).length = n := by rw [← hn, ← hR]; unfold wordsR; rw [List.length_map]
  refine (hb ▸ rwords_any Q.data.toList hq w).mono ?_
  rintro e' w' ⟨A, c, rfl, h1, h2⟩
  rw [hN]
  rw [← hR]
  exact ⟨A, c, rfl, h1, h2⟩
theorem rmayq_go (Q : ByteArray) (hl : Q.size ≤ 300) (w : World) (T : Bool) (hT : mayQ Q.data.toList = T) :
    Calls Tryz.prog 24 #[.string Q] w fun e' w' => e' = .returned (.bool T) ∧ Below w.heap.size w w' := by
  have hq : Q.data.toList.length ≤ 100000 := by rw [Array.length_toList]; show Q.size ≤ 100000; omega
  exact bO Q ▸ rmayq_any Q.data.toList hq T hT w
end Go.Proofs.YteokeghenjobaaaGreatDoor
namespace Go.Proofs.YteokeghenjobaaaGreatDoor
open Go.ChangeShapes Go.WideShapes Go.ChangeAt Go.RowKit
attribute [local go_sem ↓] Go.wp_at_zero Go.wp_at_succ
attribute [local go_sem] Oper.semAt_some
theorem tells_walk (s : Sf) (v : Value) (Q N : ByteArray) (x : Int) (w : World) (hS : ShR w w.heap.size v s) (hx : i64in x) (hT : Tabs w) :
    Calls Tryz.prog 3 #[v, .string Q, .string N, .int .i64 x] w fun e' w' => e' = .returned (.bool true) ∧ Below w.heap.size w w' := by
  clear hx
  have hS0 := hS
  obtain ⟨Ab, cb, An, cn, rfl, hB, hN, hcb, hmb, hcn, hmn⟩ := hS.ex
  clear hS
  have hT0 := hT
  clear hT hB hN hcb hmb hcn hmn
  have HB : Below w.heap.size w (w.alloc (.cells #[.int .i64 s.nb, .int .i64 s.nn, .int .i64 s.ns, .slice Ab s.bs.length cb, .slice An s.ts.length cn] 25)) := ((Below.refl w.heap.size w).alloc (by first | (simp; done) | (simp; omega)) _)
  have B1 : Blk (w.alloc (.cells #[.int .i64 s.nb, .int .i64 s.nn, .int .i64 s.ns, .slice Ab s.bs.length cb, .slice An s.ts.length cn] 25)) w.heap.size 25 #[.int .i64 s.nb, .int .i64 s.nn, .int .i64 s.ns, .slice Ab s.bs.length cb, .slice An s.ts.length cn] := Blk.new_ w 25 #[.int .i64 s.nb, .int .i64 s.nn, .int .i64 s.ns, .slice Ab s.bs.length cb, .slice An s.ts.length cn]
  have S1 := hS0.next HB
  have T1 := hT0.next HB
  obtain ⟨G, hG⟩ : ∃ G, greatS s = G := ⟨_, rfl⟩
  have HG := Lib.hid hG
  cases G
  case true =>
    clear hG
    go_enter Tryz.func3, Tryz.ntmps3
    go_wp2_with (first | (go_at_call 9; ((with_reducible refine (greatShelf_any s _ _ S1 _ HG.out).mono ?_); rintro e' wg ⟨rfl, bx⟩; have B1 := B1.below bx B1.lt; have HB := btr HB HB.size bx; have S1 := hS0.next HB; have T1 := hT0.next HB; (try clear k0 k1 k2 k3 k4); have k0 := B1.cell_ 0; have k1 := B1.cell_ 1; have k2 := B1.cell_ 2; have k3 := B1.cell_ 3; have k4 := B1.cell_ 4; simp at k0 k1 k2 k3 k4; clear bx)) | (go_at_call 10; ((with_reducible refine (awakeK_any _ T1).mono ?_); rintro e' w99 ⟨rfl, bx⟩; have HB := btr HB HB.size bx; clear bx)))
    go_ret
    exact ⟨rfl, HB⟩
  have hz := sz_of_great hG
  clear hG
  by_cases hq : (300 : Int) < (Q.size : Int)
  · clear hz
    go_enter Tryz.func3, Tryz.ntmps3
    go_wp2_with (first | (go_at_call 9; ((with_reducible refine (greatShelf_any s _ _ S1 _ HG.out).mono ?_); rintro e' wg ⟨rfl, bx⟩; have B1 := B1.below bx B1.lt; have HB := btr HB HB.size bx; have S1 := hS0.next HB; have T1 := hT0.next HB; (try clear k0 k1 k2 k3 k4); have k0 := B1.cell_ 0; have k1 := B1.cell_ 1; have k2 := B1.cell_ 2; have k3 := B1.cell_ 3; have k4 := B1.cell_ 4; simp at k0 k1 k2 k3 k4; clear bx)) | (go_at_call 10; ((with_reducible refine (awakeK_any _ T1).mono ?_); rintro e' w99 ⟨rfl, bx⟩; have HB := btr HB HB.size bx; clear bx)))
    go_ret
    exact ⟨rfl, HB⟩
  by_cases hn : (300 : Int) < (N.size : Int)
  · clear hz
    go_enter Tryz.func3, Tryz.ntmps3
    go_wp2_with (first | (go_at_call 9; ((with_reducible refine (greatShelf_any s _ _ S1 _ HG.out).mono ?_); rintro e' wg ⟨rfl, bx⟩; have B1 := B1.below bx B1.lt; have HB := btr HB HB.size bx; have S1 := hS0.next HB; have T1 := hT0.next HB; (try clear k0 k1 k2 k3 k4); have k0 := B1.cell_ 0; have k1 := B1.cell_ 1; have k2 := B1.cell_ 2; have k3 := B1.cell_ 3; have k4 := B1.cell_ 4; simp at k0 k1 k2 k3 k4; clear bx)) | (go_at_call 10; ((with_reducible refine (awakeK_any _ T1).mono ?_); rintro e' w99 ⟨rfl, bx⟩; have HB := btr HB HB.size bx; clear bx)))
    go_ret
    exact ⟨rfl, HB⟩
  have HQ3 : Hid (Q.size ≤ 300) := Lib.hid (by omega)
  have HQ5 : Hid (Q.size ≤ 100000) := Lib.hid (by omega)
  have HN300 : Hid (N.size ≤ 300) := Lib.hid (by omega)
  have HZ := Lib.hid hz
  have HLB := Lib.hid hz.bl
  have HLN := Lib.hid hz.tl
  have HLR : Hid (∀ n ∈ s.ts, n.tg.length ≤ 100000 ∧ n.sh.length ≤ 100000) := Lib.hid (fun n hn => ⟨(hz.hn n hn).2.1.2, (hz.hn n hn).2.2⟩)
  have hl1 := findR_len (s := s) Q.data.toList
  have hl2 := kinR_len (s := s) x
  have hl3 := tagsR_len (s := s)
  have hl4 := wordsR_len (q := N.data.toList) (by rw [Array.length_toList]; exact HN300.out)
  obtain ⟨⟨L1, e1⟩, hR1⟩ : ∃ p, findR s Q.data.toList = p := ⟨_, rfl⟩
  obtain ⟨⟨L2, e2⟩, hR2⟩ : ∃ p, kinR s x = p := ⟨_, rfl⟩
  obtain ⟨L3, hR3⟩ : ∃ p, tagsR s = p := ⟨_, rfl⟩
  obtain ⟨L4, hR4⟩ : ∃ p, wordsR N.data.toList = p := ⟨_, rfl⟩
  rw [hR1] at hl1
  rw [hR2] at hl2
  rw [hR3] at hl3
  rw [hR4] at hl4
  obtain ⟨n1, hn1⟩ : ∃ n, L1.length = n := ⟨_, rfl⟩
  obtain ⟨n2, hn2⟩ : ∃ n, L2.length = n := ⟨_, rfl⟩
  obtain ⟨n3, hn3⟩ : ∃ n, L3.length = n := ⟨_, rfl⟩
  obtain ⟨n4, hn4⟩ : ∃ n, L4.length = n := ⟨_, rfl⟩
  have HO1 : Hid (n1 ≤ 100000) := Lib.hid (by rw [← hn1]; exact hl1)
  have HO2 : Hid (n2 ≤ 100000) := Lib.hid (by rw [← hn2]; exact hl2)
  have HO3 : Hid (n3 ≤ 100000) := Lib.hid (by rw [← hn3]; exact hl3)
  have HO4 : Hid (n4 ≤ 100000) := Lib.hid (by rw [← hn4]; exact hl4)
  have HB1 : Hid (n1 ≤ 1000000) := Lib.hid (by have := HO1.out; omega)
  have HB2 : Hid (n2 ≤ 1000000) := Lib.hid (by have := HO2.out; omega)
  have HB3 : Hid (n3 ≤ 1000000) := Lib.hid (by have := HO3.out; omega)
  have HB4 : Hid (n4 ≤ 1000000) := Lib.hid (by have := HO4.out; omega)
  have HR1 := Lib.hid hR1
  have HR2 := Lib.hid hR2
  have HR3 := Lib.hid hR3
  have HR4 := Lib.hid hR4
  have HN1 := Lib.hid hn1
  have HN2 := Lib.hid hn2
  have HN3 := Lib.hid hn3
  have HN4 := Lib.hid hn4
  obtain ⟨M, hM⟩ : ∃ m, mayQ Q.data.toList = m := ⟨_, rfl⟩
  have HMQ := Lib.hid hM
  clear hl1 hl2 hl3 hl4 hR1 hR2 hR3 hR4 hn1 hn2 hn3 hn4 hM hz
  go_enter Tryz.func3, Tryz.ntmps3
  go_upto_region 3 with (go_at_call 9; ((with_reducible refine (greatShelf_any s _ _ S1 _ HG.out).mono ?_); rintro e' wg ⟨rfl, bx⟩; have B1 := B1.below bx B1.lt; have HB := btr HB HB.size bx; have S1 := hS0.next HB; have T1 := hT0.next HB; (try clear k0 k1 k2 k3 k4); have k0 := B1.cell_ 0; have k1 := B1.cell_ 1; have k2 := B1.cell_ 2; have k3 := B1.cell_ 3; have k4 := B1.cell_ 4; simp at k0 k1 k2 k3 k4; clear bx))
  go_upto_region 4 with (go_at_call 11; ((with_reducible refine (rcopy_any s _ _ S1 HLB.out HLN.out HLR.out).mono ?_); rintro e' w5 ⟨v5, rfl, hQ, bx⟩; (obtain ⟨A5, c5, D5, e5, rfl, -⟩ := hQ.parts); have B1 := B1.below bx B1.lt; have HB := btr HB HB.size bx; have S1 := hS0.next HB; have T1 := hT0.next HB; (try clear k0 k1 k2 k3 k4); have k0 := B1.cell_ 0; have k1 := B1.cell_ 1; have k2 := B1.cell_ 2; have k3 := B1.cell_ 3; have k4 := B1.cell_ 4; simp at k0 k1 k2 k3 k4; clear bx))
  have hal : Below w5.heap.size w5 (w5.alloc (.cells #[.int .i64 s.nb, .int .i64 s.nn, .int .i64 s.ns, .slice A5 s.bs.length c5, .slice D5 s.ts.length e5] 25)) := (Below.refl _ w5).alloc (Nat.le_refl _) _
  have B1 := B1.below hal B1.lt
  have HB := btr HB HB.size hal
  have B5 : Blk (w5.alloc (.cells #[.int .i64 s.nb, .int .i64 s.nn, .int .i64 s.ns, .slice A5 s.bs.length c5, .slice D5 s.ts.length e5] 25)) w5.heap.size 25 #[.int .i64 s.nb, .int .i64 s.nn, .int .i64 s.ns, .slice A5 s.bs.length c5, .slice D5 s.ts.length e5] := Blk.new_ w5 25 #[.int .i64 s.nb, .int .i64 s.nn, .int .i64 s.ns, .slice A5 s.bs.length c5, .slice D5 s.ts.length e5]
  have RB : ShR (w5.alloc (.cells #[.int .i64 s.nb, .int .i64 s.nn, .int .i64 s.ns, .slice A5 s.bs.length c5, .slice D5 s.ts.length e5] 25)) ((w5.alloc (.cells #[.int .i64 s.nb, .int .i64 s.nn, .int .i64 s.ns, .slice A5 s.bs.length c5, .slice D5 s.ts.length e5] 25))).heap.size (.agg #[.int .i64 s.nb, .int .i64 s.nn, .int .i64 s.ns, .slice A5 s.bs.length c5, .slice D5 s.ts.length e5]) s := hQ.toR.next hal
  clear hal hQ S1 T1
  obtain ⟨Wb, hWB⟩ : ∃ V : World, V = (w5.alloc (.cells #[.int .i64 s.nb, .int .i64 s.nn, .int .i64 s.ns, .slice A5 s.bs.length c5, .slice D5 s.ts.length e5] 25)) := ⟨_, rfl⟩
  change Code.wp _ _ _ _ ((w5.alloc (.cells #[.int .i64 s.nb, .int .i64 s.nn, .int .i64 s.ns, .slice A5 s.bs.length c5, .slice D5 s.ts.length e5] 25)))
  rw [← hWB] at B1 B5 HB RB ⊢
  clear hWB
  have S1 := hS0.next HB
  have T1 := hT0.next HB
  have l5 : w5.heap.size < Wb.heap.size := B5.lt
  have l1 : w.heap.size < Wb.heap.size := B1.lt
  obtain ⟨g5, hg5⟩ : ∃ g, w5.heap.size = g := ⟨_, rfl⟩
  rw [hg5] at B5 l5
  (try clear k0 k1 k2 k3 k4)
  have k0 := B1.cell_ 0
  have k1 := B1.cell_ 1
  have k2 := B1.cell_ 2
  have k3 := B1.cell_ 3
  have k4 := B1.cell_ 4
  simp at k0 k1 k2 k3 k4
  rw [hg5]
  clear hg5
  have hWb : Wb.heap.size ≤ Wb.heap.size := Nat.le_refl _
  go_upto_region 5 with (go_at_call 12; ((with_reducible refine (find_all s _ Q _ S1 T1 HQ3.out L1 e1 n1 HR1.out HN1.out).mono ?_); rintro e' w6 ⟨A1, c1, rfl, oa, bx⟩; have oa := own_base oa hWb; have B1 := B1.below bx B1.lt; have HB := btr HB HB.size bx; have S1 := hS0.next HB; have T1 := hT0.next HB; have B5 := B5.below bx B5.lt; have RB := RB.below (bx.mono hWb); have hWb := Nat.le_trans hWb bx.size; (try clear k0 k1 k2 k3 k4); have k0 := B1.cell_ 0; have k1 := B1.cell_ 1; have k2 := B1.cell_ 2; have k3 := B1.cell_ 3; have k4 := B1.cell_ 4; simp at k0 k1 k2 k3 k4; clear bx))
  go_upto_region 6 with (go_at_call 13; ((with_reducible refine (rfind_all s _ Q _ S1 HZ.out HQ3.out L1 e1 n1 HR1.out HN1.out).mono ?_); rintro e' w7 ⟨A2, c2, rfl, sb, bx⟩; have B1 := B1.below bx B1.lt; have HB := btr HB HB.size bx; have S1 := hS0.next HB; have T1 := hT0.next HB; have B5 := B5.below bx B5.lt; have RB := RB.below (bx.mono hWb); have hWb := Nat.le_trans hWb bx.size; have oa := own_belowW oa bx; (try clear k0 k1 k2 k3 k4); have k0 := B1.cell_ 0; have k1 := B1.cell_ 1; have k2 := B1.cell_ 2; have k3 := B1.cell_ 3; have k4 := B1.cell_ 4; simp at k0 k1 k2 k3 k4; clear bx))
  go_upto_region 7 with (go_at_call 14; ((with_reducible refine (kin_all s _ x _ S1 T1 L2 e2 n2 HR2.out HN2.out).mono ?_); rintro e' w8 ⟨A3, c3, rfl, oc, bx⟩; have oc := own_base oc hWb; have B1 := B1.below bx B1.lt; have HB := btr HB HB.size bx; have S1 := hS0.next HB; have T1 := hT0.next HB; have B5 := B5.below bx B5.lt; have RB := RB.below (bx.mono hWb); have hWb := Nat.le_trans hWb bx.size; have oa := own_belowW oa bx; have sb := SlE.next sb bx; (try clear k0 k1 k2 k3 k4); have k0 := B1.cell_ 0; have k1 := B1.cell_ 1; have k2 := B1.cell_ 2; have k3 := B1.cell_ 3; have k4 := B1.cell_ 4; simp at k0 k1 k2 k3 k4; clear bx))
  go_upto_region 8 with (go_at_call 15; ((with_reducible refine (rkin_all s _ x _ S1 HZ.out L2 e2 n2 HR2.out HN2.out).mono ?_); rintro e' w9 ⟨A4, c4, rfl, sd, bx⟩; have B1 := B1.below bx B1.lt; have HB := btr HB HB.size bx; have S1 := hS0.next HB; have T1 := hT0.next HB; have B5 := B5.below bx B5.lt; have RB := RB.below (bx.mono hWb); have hWb := Nat.le_trans hWb bx.size; have oa := own_belowW oa bx; have oc := own_belowW oc bx; have sb := SlE.next sb bx; (try clear k0 k1 k2 k3 k4); have k0 := B1.cell_ 0; have k1 := B1.cell_ 1; have k2 := B1.cell_ 2; have k3 := B1.cell_ 3; have k4 := B1.cell_ 4; simp at k0 k1 k2 k3 k4; clear bx))
  go_upto_region 9 with (first | (go_at_call 16; ((with_reducible refine (tags_all s _ _ S1 T1 L3 n3 HR3.out HN3.out).mono ?_); rintro e' w10 ⟨A6, c6, rfl, ot, bx⟩; have ot := own_base ot hWb; have B1 := B1.below bx B1.lt; have HB := btr HB HB.size bx; have S1 := hS0.next HB; have T1 := hT0.next HB; have B5 := B5.below bx B5.lt; have RB := RB.below (bx.mono hWb); have hWb := Nat.le_trans hWb bx.size; have oa := own_belowW oa bx; have oc := own_belowW oc bx; have sb := SlE.next sb bx; have sd := SlE.next sd bx; (try clear k0 k1 k2 k3 k4); have k0 := B1.cell_ 0; have k1 := B1.cell_ 1; have k2 := B1.cell_ 2; have k3 := B1.cell_ 3; have k4 := B1.cell_ 4; simp at k0 k1 k2 k3 k4; clear bx)) | (go_at_call 17; ((with_reducible refine (words_all N HN300.out _ L4 n4 HR4.out HN4.out).mono ?_); rintro e' w11 ⟨A7, c7, rfl, ow, bx⟩; have ow := own_base ow hWb; have B1 := B1.below bx B1.lt; have HB := btr HB HB.size bx; have S1 := hS0.next HB; have T1 := hT0.next HB; have B5 := B5.below bx B5.lt; have RB := RB.below (bx.mono hWb); have hWb := Nat.le_trans hWb bx.size; have oa := own_belowW oa bx; have oc := own_belowW oc bx; have ot := own_belowW ot bx; have sb := SlE.next sb bx; have sd := SlE.next sd bx; (try clear k0 k1 k2 k3 k4); have k0 := B1.cell_ 0; have k1 := B1.cell_ 1; have k2 := B1.cell_ 2; have k3 := B1.cell_ 3; have k4 := B1.cell_ 4; simp at k0 k1 k2 k3 k4; clear bx)))
  go_upto_region 10 with (first | (go_at_call 18; ((first | (with_reducible refine (sameItems_yes L1 _ _ _ _ _ _ HN1.out HB1.out (sle_of_own oa (itC_len _) (by decide)) sb).mono ?_) | (with_reducible refine (sameItems_yes L2 _ _ _ _ _ _ HN2.out HB2.out (sle_of_own oc (itC_len _) (by decide)) sd).mono ?_) | (with_reducible refine (sameItems_yes L3 _ _ _ _ _ _ HN3.out HB3.out (sle_of_own ot (itC_len _) (by decide)) se).mono ?_)); rintro e' w21 ⟨rfl, bx⟩; have B1 := B1.below bx B1.lt; have HB := btr HB HB.size bx; have S1 := hS0.next HB; have T1 := hT0.next HB; have B5 := B5.below bx B5.lt; have RB := RB.below (bx.mono hWb); have hWb := Nat.le_trans hWb bx.size; have oa := own_belowW oa bx; have oc := own_belowW oc bx; have ot := own_belowW ot bx; have ow := own_belowW ow bx; have sb := SlE.next sb bx; have sd := SlE.next sd bx; (try clear k0 k1 k2 k3 k4); have k0 := B1.cell_ 0; have k1 := B1.cell_ 1; have k2 := B1.cell_ 2; have k3 := B1.cell_ 3; have k4 := B1.cell_ 4; simp at k0 k1 k2 k3 k4; clear bx)) | (go_at_call 19; ((with_reducible refine (num_any _ _).mono ?_); rintro e' w24 ⟨rfl, bx⟩; have B1 := B1.below bx B1.lt; have HB := btr HB HB.size bx; have S1 := hS0.next HB; have T1 := hT0.next HB; have B5 := B5.below bx B5.lt; have RB := RB.below (bx.mono hWb); have hWb := Nat.le_trans hWb bx.size; have oa := own_belowW oa bx; have oc := own_belowW oc bx; have ot := own_belowW ot bx; have ow := own_belowW ow bx; have sb := SlE.next sb bx; have sd := SlE.next sd bx; (try clear k0 k1 k2 k3 k4); have k0 := B1.cell_ 0; have k1 := B1.cell_ 1; have k2 := B1.cell_ 2; have k3 := B1.cell_ 3; have k4 := B1.cell_ 4; simp at k0 k1 k2 k3 k4; clear bx)) | (go_at_call 20; ((with_reducible refine (rtags_all s _ _ S1 HZ.out L3 n3 HR3.out HN3.out).mono ?_); rintro e' w25 ⟨A8, c8, rfl, se, bx⟩; have B1 := B1.below bx B1.lt; have HB := btr HB HB.size bx; have S1 := hS0.next HB; have T1 := hT0.next HB; have B5 := B5.below bx B5.lt; have RB := RB.below (bx.mono hWb); have hWb := Nat.le_trans hWb bx.size; have oa := own_belowW oa bx; have oc := own_belowW oc bx; have ot := own_belowW ot bx; have ow := own_belowW ow bx; have sb := SlE.next sb bx; have sd := SlE.next sd bx; (try clear k0 k1 k2 k3 k4); have k0 := B1.cell_ 0; have k1 := B1.cell_ 1; have k2 := B1.cell_ 2; have k3 := B1.cell_ 3; have k4 := B1.cell_ 4; simp at k0 k1 k2 k3 k4; clear bx)) | (go_at_call 22; ((with_reducible refine (rwords_all N HN300.out _ L4 n4 HR4.out HN4.out).mono ?_); rintro e' w26 ⟨A9, c9, rfl, sw, bx⟩; have B1 := B1.below bx B1.lt; have HB := btr HB HB.size bx; have S1 := hS0.next HB; have T1 := hT0.next HB; have B5 := B5.below bx B5.lt; have RB := RB.below (bx.mono hWb); have hWb := Nat.le_trans hWb bx.size; have oa := own_belowW oa bx; have oc := own_belowW oc bx; have ot := own_belowW ot bx; have ow := own_belowW ow bx; have sb := SlE.next sb bx; have sd := SlE.next sd bx; (try clear k0 k1 k2 k3 k4); have k0 := B1.cell_ 0; have k1 := B1.cell_ 1; have k2 := B1.cell_ 2; have k3 := B1.cell_ 3; have k4 := B1.cell_ 4; simp at k0 k1 k2 k3 k4; clear bx)) | (go_at_call 21; ((with_reducible refine (sameTextsN L4 _ _ _ _ _ _ HN4.out HB4.out (Sl.of_own ow) sw).mono ?_); rintro e' w27 ⟨rfl, bx⟩; have B1 := B1.below bx B1.lt; have HB := btr HB HB.size bx; have S1 := hS0.next HB; have T1 := hT0.next HB; have B5 := B5.below bx B5.lt; have RB := RB.below (bx.mono hWb); have hWb := Nat.le_trans hWb bx.size; have oa := own_belowW oa bx; have oc := own_belowW oc bx; have ot := own_belowW ot bx; have ow := own_belowW ow bx; have sb := SlE.next sb bx; have sd := SlE.next sd bx; (try clear k0 k1 k2 k3 k4); have k0 := B1.cell_ 0; have k1 := B1.cell_ 1; have k2 := B1.cell_ 2; have k3 := B1.cell_ 3; have k4 := B1.cell_ 4; simp at k0 k1 k2 k3 k4; clear bx)) | (go_at_call 23; ((with_reducible refine (mayq_go Q _ HQ5.out M HMQ.out).mono ?_); rintro e' w28 ⟨rfl, bx⟩; have B1 := B1.below bx B1.lt; have HB := btr HB HB.size bx; have S1 := hS0.next HB; have T1 := hT0.next HB; have B5 := B5.below bx B5.lt; have RB := RB.below (bx.mono hWb); have hWb := Nat.le_trans hWb bx.size; have oa := own_belowW oa bx; have oc := own_belowW oc bx; have ot := own_belowW ot bx; have ow := own_belowW ow bx; have sb := SlE.next sb bx; have sd := SlE.next sd bx; (try clear k0 k1 k2 k3 k4); have k0 := B1.cell_ 0; have k1 := B1.cell_ 1; have k2 := B1.cell_ 2; have k3 := B1.cell_ 3; have k4 := B1.cell_ 4; simp at k0 k1 k2 k3 k4; clear bx)) | (go_at_call 24; ((with_reducible refine (rmayq_go Q HQ3.out _ M HMQ.out).mono ?_); rintro e' w29 ⟨rfl, bx⟩; have B1 := B1.below bx B1.lt; have HB := btr HB HB.size bx; have S1 := hS0.next HB; have T1 := hT0.next HB; have B5 := B5.below bx B5.lt; have RB := RB.below (bx.mono hWb); have hWb := Nat.le_trans hWb bx.size; have oa := own_belowW oa bx; have oc := own_belowW oc bx; have ot := own_belowW ot bx; have ow := own_belowW ow bx; have sb := SlE.next sb bx; have sd := SlE.next sd bx; (try clear k0 k1 k2 k3 k4); have k0 := B1.cell_ 0; have k1 := B1.cell_ 1; have k2 := B1.cell_ 2; have k3 := B1.cell_ 3; have k4 := B1.cell_ 4; simp at k0 k1 k2 k3 k4; clear bx)))
  (try clear sb sd)
  (try clear se sw)
  go_upto_region 11 with (go_at_call 25; ((with_reducible refine (overIt_any _ _ _ _ _ _ oa hWb HO1.out).mono ?_); rintro e' w31 ⟨rfl, b9, g9, k9⟩; have B1 := B1.below b9 l1; have B5 := B5.below b9 l5; have HB := HB.trans (b9.mono (Nat.le_of_lt l1)); have S1 := hS0.next HB; have T1 := hT0.next HB; have RB := RB.below b9; have hWb := Nat.le_trans hWb b9.size; (try clear k0 k1 k2 k3 k4); (obtain ⟨y_oc, ocn⟩ := own_keepR oc k9); have oc := ocn; clear ocn; (obtain ⟨y_ot, otn⟩ := own_keepR ot k9); have ot := otn; clear otn; (obtain ⟨y_ow, own⟩ := own_keepR ow k9); have ow := own; clear own; have k0 := B1.cell_ 0; have k1 := B1.cell_ 1; have k2 := B1.cell_ 2; have k3 := B1.cell_ 3; have k4 := B1.cell_ 4; simp at k0 k1 k2 k3 k4; clear b9 g9 k9 oa))
  go_upto_region 12 with (go_at_call 25; ((with_reducible refine (overIt_any _ _ _ _ _ _ oc hWb HO2.out).mono ?_); rintro e' w32 ⟨rfl, b9, g9, k9⟩; have B1 := B1.below b9 l1; have B5 := B5.below b9 l5; have HB := HB.trans (b9.mono (Nat.le_of_lt l1)); have S1 := hS0.next HB; have T1 := hT0.next HB; have RB := RB.below b9; have hWb := Nat.le_trans hWb b9.size; (try clear k0 k1 k2 k3 k4); (obtain ⟨y_ot, otn⟩ := own_keepR ot k9); have ot := otn; clear otn; (obtain ⟨y_ow, own⟩ := own_keepR ow k9); have ow := own; clear own; have k0 := B1.cell_ 0; have k1 := B1.cell_ 1; have k2 := B1.cell_ 2; have k3 := B1.cell_ 3; have k4 := B1.cell_ 4; simp at k0 k1 k2 k3 k4; clear b9 g9 k9 oc))
  go_upto_region 13 with (go_at_call 25; ((with_reducible refine (overIt_any _ _ _ _ _ _ ot hWb HO3.out).mono ?_); rintro e' w33 ⟨rfl, b9, g9, k9⟩; have B1 := B1.below b9 l1; have B5 := B5.below b9 l5; have HB := HB.trans (b9.mono (Nat.le_of_lt l1)); have S1 := hS0.next HB; have T1 := hT0.next HB; have RB := RB.below b9; have hWb := Nat.le_trans hWb b9.size; (try clear k0 k1 k2 k3 k4); (obtain ⟨y_ow, own⟩ := own_keepR ow k9); have ow := own; clear own; have k0 := B1.cell_ 0; have k1 := B1.cell_ 1; have k2 := B1.cell_ 2; have k3 := B1.cell_ 3; have k4 := B1.cell_ 4; simp at k0 k1 k2 k3 k4; clear b9 g9 k9 ot))
  go_upto_region 14 with (go_at_call 26; ((with_reducible refine (overT_any _ _ _ _ _ _ ow hWb HO4.out).mono ?_); rintro e' w34 ⟨rfl, b9, g9, k9⟩; have B1 := B1.below b9 l1; have B5 := B5.below b9 l5; have HB := HB.trans (b9.mono (Nat.le_of_lt l1)); have S1 := hS0.next HB; have T1 := hT0.next HB; have RB := RB.below b9; have hWb := Nat.le_trans hWb b9.size; (try clear k0 k1 k2 k3 k4); have k0 := B1.cell_ 0; have k1 := B1.cell_ 1; have k2 := B1.cell_ 2; have k3 := B1.cell_ 3; have k4 := B1.cell_ 4; simp at k0 k1 k2 k3 k4; clear b9 g9 k9 ow))
  have RC := RB.mono hWb
  have q0 := B5.cell_ 0
  have q1 := B5.cell_ 1
  have q2 := B5.cell_ 2
  have q3 := B5.cell_ 3
  have q4 := B5.cell_ 4
  simp at q0 q1 q2 q3 q4
  go_wp2_with (first | (go_at_call 27; ((with_reducible refine (sameShelf_yes s _ _ _ S1 RC HLB.out HLN.out HLR.out).mono ?_); rintro e' w40 ⟨rfl, bx⟩; have HB := btr HB HB.size bx; have T1 := hT0.next HB; clear bx)) | (go_at_call 10; ((with_reducible refine (awakeK_any _ T1).mono ?_); rintro e' w99 ⟨rfl, bx⟩; have HB := btr HB HB.size bx; clear bx)))
  go_ret
  exact ⟨rfl, HB⟩
end Go.Proofs.YteokeghenjobaaaGreatDoor
namespace Go.Proofs.YteokeghenjobaaaGreatDoor
open Go.ChangeShapes Go.WideShapes Go.ChangeAt Go.RowKit
theorem acc_eq : Rows.laid_unicode_utf8_acceptRanges = Lib.acceptData := by kernel_rfl
theorem first_eq : Rows.laid_unicode_utf8_first = Lib.firstData := Pinned.utf8First_eq
def laidTabs : List (String × DataW Unit) := [("unicode/utf8.acceptRanges", Lib.acceptData), ("unicode/utf8.first", Lib.firstData)]
theorem laid_eq : [("unicode/utf8.acceptRanges", Rows.laid_unicode_utf8_acceptRanges), ("unicode/utf8.first", Rows.laid_unicode_utf8_first)] = laidTabs := by rw [acc_eq, first_eq]; rfl
noncomputable def laidWorld (os : Os) : World :=
  let w0 := World.holding Tryz.prog os ⟨#[], #[], []⟩
  let put (h : Array Obj) (g : Nat) (cs : Array Value) : Array Obj := h.modify g fun
    | .cells _ t frozen => .cells cs t frozen
    | o => o
  let h1 := put w0.heap 1 (Lib.firstTab.map fun z => Value.int .u8 z).toArray
  let h2 := put h1 2 ((List.range 16).flatMap fun i => [Value.int .u8 (Lib.accLo i), Value.int .u8 (Lib.accHi i)]).toArray
  { w0 with heap := h2 }
theorem noHandle (w : World) : laidMetH Tryz.prog laidTabs w ↔ laidMet Tryz.prog laidTabs w := by
  have e : (laidTabs.filter fun x => x.2.handleName?.isSome) = [] := by kernel_rfl
  unfold laidMetH
  rw [e]
theorem laid_met (os : Os) (args : Array Value) : laidMetH Tryz.prog [("unicode/utf8.acceptRanges", Rows.laid_unicode_utf8_acceptRanges), ("unicode/utf8.first", Rows.laid_unicode_utf8_first)] ((laidWorld os).forCall (fun _ _ => 0) ⟨#[], args, []⟩).memory := by
  rw [laid_eq, noHandle]
  exact (LaidIn.of_run (l := laidTabs) [1, 2] 8 (by kernel_rfl) (by kernel_rfl) (by kernel_rfl) (by kernel_rfl)).met
theorem tabs_of {W : World} (h : laidMetH Tryz.prog [("unicode/utf8.acceptRanges", Rows.laid_unicode_utf8_acceptRanges), ("unicode/utf8.first", Rows.laid_unicode_utf8_first)] W) : Tabs W := by
  rw [laid_eq, noHandle] at h
  exact utf8Tabs_of_readsT (U8Types.of196 Tryz.laysValid) ⟨by kernel_rfl, by kernel_rfl, by kernel_rfl, by kernel_rfl, by kernel_rfl, by kernel_rfl, by kernel_rfl⟩ (Lib.laidMet.reads h (.tail _ (.head _))) (Lib.laidMet.reads h (.head _))
theorem string_value {H : Type} {enc : TypeId × Value → H} {P : Program} {w : World} {base : Nat} {spare : Nat → Bool} {held : Bool} {r : Reach} {b0 : Nat} {t : TypeId} {v : Value} {d : DataW H} {p : List MemPlace} (ht : P.underlying t = some .string) (hv : Value.okWide P w r b0 t v) (h : DataW.Trod enc P w base spare held t v d p) :
    ∃ s : ByteArray, v = .string s ∧ s.size ≤ maxLen := by
  obtain ⟨s, rfl, _, _, hs⟩ := Go.ChangeMaps.open_string ht hv h
  exact ⟨s, rfl, hs⟩
end Go.Proofs.YteokeghenjobaaaGreatDoor
