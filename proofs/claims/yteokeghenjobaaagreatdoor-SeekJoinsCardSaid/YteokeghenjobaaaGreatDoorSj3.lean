/- seek.Tags. -/
import Derived.Test.YteokeghenjobaaaGreatDoorSj2
import Derived.Lib.SliceRun
import Derived.Deep.DeepCutAuto
import Derived.Test.YteokeghenjobaaaGreatDoorSj1
import Derived.Test.YteokeghenjobaaaGreatDoorRows
import Derived.SevenTiedAt
import Derived.LaidHandle
import Derived.Lib.LaidIn
import Derived.Lib.LaidU8T
import Derived.PinnedBridge
import Derived.ChangeMaps5
set_option linter.unusedSimpArgs false
set_option linter.unusedVariables false
set_option maxRecDepth 100000
set_option maxHeartbeats 16000000
namespace Go.Proofs.YteokeghenjobaaaGreatDoor
open Go.ChangeShapes Go.WideShapes Go.ChangeAt Go.RowKit
attribute [local go_sem ↓] Go.wp_at_zero Go.wp_at_succ
attribute [local go_sem] Oper.semAt_some
theorem OwnS.mono {w : World} {b n m : Nat} {M : List UInt8 → Nat} (h : OwnS w b n M) (hn : n ≤ m) : OwnS w b m M := by
  obtain ⟨D, h, k⟩ := h
  exact ⟨D, h.mono hn, k⟩
def cntT (l : List ByteArray) (x : List UInt8) : Nat := l.countP fun y => decide (y.data.toList = x)
theorem cntT_snoc (l : List ByteArray) (y : ByteArray) : cntT (l ++ [y]) = fun q => if q = y.data.toList then cntT l y.data.toList + 1 else cntT l q := by
  funext q
  unfold cntT
  rw [List.countP_append]
  by_cases h : q = y.data.toList
  · subst h
    simp
  · rw [if_neg h]
    have : ¬ y.data.toList = q := fun e => h e.symm
    simp [this]
theorem cntT_le (l : List ByteArray) (x : List UInt8) : cntT l x ≤ l.length := List.countP_le_length
theorem cntT_pos (l : List ByteArray) (x : List UInt8) : 0 < cntT l x ↔ bOf x ∈ l := by
  unfold cntT
  rw [List.countP_pos_iff]
  constructor
  · rintro ⟨y, hy, h⟩
    have e := of_decide_eq_true h
    have : bOf x = y := data_inj (by rw [bOf_l, e])
    rw [this]
    exact hy
  · intro h
    exact ⟨_, h, decide_eq_true (bOf_l x)⟩
def tagsA (s : Sf) : List ByteArray := s.ts.flatMap fun n => n.tg
def tagIt (s : Sf) (x : List UInt8) : It := ⟨(cntT (tagsA s) x : Int), bOf x⟩
theorem tagsFrom_all : ∀ (l pr : List ByteArray), tagsFrom pr l = true → ∀ t ∈ l, mayN t = true
  | [], _, _, t, ht => by simp at ht
  | x :: l, pr, h, t, ht => by
    unfold tagsFrom at h
    simp only [Bool.and_eq_true] at h
    rcases List.mem_cons.1 ht with rfl | ht
    · exact h.1
    · exact tagsFrom_all l [x] h.2.2 t ht
theorem MayF.tags {s : Sf} (h : MayF s) {n : Nt} (hn : n ∈ s.ts) : ∀ t ∈ n.tg, mayN t = true := by
  have := (h.ts n hn).2.2
  unfold mayNt at this
  simp only [Bool.and_eq_true] at this
  have h2 := this.2.2.2
  unfold mayTg at h2
  simp only [Bool.and_eq_true] at h2
  exact tagsFrom_all _ _ h2.2
theorem flatTake_len {s : Sf} (h : MayF s) (k : Nat) : ((s.ts.take k).flatMap fun n => n.tg).length ≤ 4 * k := by
  have gen : ∀ l : List Nt, (∀ n ∈ l, n.tg.length ≤ 4) → (l.flatMap fun n => n.tg).length ≤ 4 * l.length := by
    intro l
    induction l with
    | nil => intro _; simp
    | cons n l ih =>
      intro hl
      rw [List.flatMap_cons, List.length_append, List.length_cons]
      have h1 := hl n (by simp)
      have h2 := ih (fun m hm => hl m (by simp [hm]))
      omega
  have := gen (s.ts.take k) (fun n hn => (h.note (List.mem_of_mem_take hn)).1)
  rw [List.length_take] at this
  omega
theorem tags_any (s : Sf) (v : Value) (w : World) (hS : ShR w w.heap.size v s) (hT : Tabs w) (hM : mayS s = true) :
    Calls Tryz.prog 16 #[v] w fun e' w' => ∃ (A : Option Addr) (c : Nat) (ks : List (List UInt8)), e' = .returned (.slice A ks.length c) ∧ ks.Pairwise (· < ·) ∧ (∀ p, p ∈ ks ↔ bOf p ∈ tagsA s) ∧ w'.ownsRow w.heap.size 50 2 (.slice A ks.length c) ks.length ((ks.map (tagIt s)).map itC).flatten ∧ Below w.heap.size w w' := by
  have hF := mayF_of hM
  have hS0 := hS
  obtain ⟨Ab, cb, An, cn, rfl, hB, hN, hcb, hmb, hcn, hmn⟩ := hS.ex
  clear hS
  obtain ⟨n, hn⟩ : ∃ n, s.ts.length = n := ⟨_, rfl⟩
  obtain ⟨bn, hbn⟩ : ∃ n, s.bs.length = n := ⟨_, rfl⟩
  have HB : Below w.heap.size w (w.alloc (.cells #[.int .i64 s.nb, .int .i64 s.nn, .int .i64 s.ns, .slice Ab s.bs.length cb, .slice An s.ts.length cn] 25)) := ((Below.refl w.heap.size w).alloc (by first | (simp; done) | (simp; omega)) _)
  have B1 : Blk (w.alloc (.cells #[.int .i64 s.nb, .int .i64 s.nn, .int .i64 s.ns, .slice Ab s.bs.length cb, .slice An s.ts.length cn] 25)) w.heap.size 25 #[.int .i64 s.nb, .int .i64 s.nn, .int .i64 s.ns, .slice Ab s.bs.length cb, .slice An s.ts.length cn] := Blk.new_ w 25 #[.int .i64 s.nb, .int .i64 s.nn, .int .i64 s.ns, .slice Ab s.bs.length cb, .slice An s.ts.length cn]
  have S1 : ShR (w.alloc (.cells #[.int .i64 s.nb, .int .i64 s.nn, .int .i64 s.ns, .slice Ab s.bs.length cb, .slice An s.ts.length cn] 25)) ((w.alloc (.cells #[.int .i64 s.nb, .int .i64 s.nn, .int .i64 s.ns, .slice Ab s.bs.length cb, .slice An s.ts.length cn] 25))).heap.size (.agg #[.int .i64 s.nb, .int .i64 s.nn, .int .i64 s.ns, .slice Ab s.bs.length cb, .slice An s.ts.length cn]) s := hS0.next HB
  have T1 := hT.next HB
  obtain ⟨es, hel, hse, hnt⟩ := hN.ex
  simp only [hn, hbn] at HB B1 S1 T1 hel ⊢
  have hn12 : n ≤ 12 := by have := hF.tl; omega
  have HEL := Lib.hid hel
  have HN := Lib.hid hn
  have HM := Lib.hid hM
  have HFF := Lib.hid hF
  clear hM hn hbn hS0 hT hel hB hF
  have hmm := @run_makeMap Tryz.prog
  go_enter Tryz.func16, Tryz.ntmps16
  go_upto_region 5 with (go_at_call 28; ((with_reducible refine (smay_any s _ _ S1 T1 _ HM.out).mono ?_); rintro e' w3 ⟨rfl, b3⟩; have T1 := T1.next b3; have S1 := S1.next b3; have B1 := B1.below b3 B1.lt; have HB := btr HB HB.size b3; (try clear k0 k1 k2 k3 k4); have k0 := B1.cell_ 0; have k1 := B1.cell_ 1; have k2 := B1.cell_ 2; have k3 := B1.cell_ 3; have k4 := B1.cell_ 4; simp at k0 k1 k2 k3 k4; clear b3; have B1m := B1.alloc_ (.map #[] 0); have m4 := B1m.cell_ 4; simp at m4))
  clear hmm
  have HM0 := OwnS.made w3
  have hal : Below w3.heap.size w3 (w3.alloc (.map #[] 0)) := (Below.refl _ _).alloc (Nat.le_refl _) _
  have HBQ := HB
  have hw3 := HBQ.size
  clear HB B1 S1 T1 k0 k1 k2 k3 k4 m4 B1m
  go_loopw [18] (fun i wr => ∃ k : Nat, k ≤ n ∧ i = .int .i64 k ∧ OwnS wr w3.heap.size (4 * k) (cntT ((s.ts.take k).flatMap fun n => n.tg)) ∧ Below w3.heap.size w3 wr) (fun i _ => n - (intOf i).toNat)
  case atStart => exact ⟨0, by omega, rfl, HM0, hal⟩
  case round =>
    clear HM0 hal
    obtain ⟨k, hk, rfl, hO, HBr⟩ := hrel
    have hgl := hO.lt
    by_cases hlt : k < n
    · have hlx : k < s.ts.length := by have := HN.out; omega
      have i0 : (0 : Int) ≤ (k : Int) := by omega
      have i1 : (k : Int) < (n : Int) := by omega
      obtain ⟨y, hx⟩ : ∃ y, s.ts[k]? = some y := ⟨_, List.getElem?_eq_getElem hlx⟩
      have hmem := List.mem_of_getElem? hx
      have hsm := (HFF.out.note hmem).1
      obtain ⟨e0, he⟩ : ∃ e, es[k]? = some e := ⟨_, List.getElem?_eq_getElem (by have := HEL.out; omega)⟩
      obtain ⟨At, ct, As, cs, rfl, hyt, -⟩ := (hnt k y e0 hx he).ex
      obtain ⟨b1, o1, rfl, l1, q1⟩ := hse.at_ (by have := HEL.out; omega)
      have HBw := btr HBQ HBQ.size HBr
      have y0 : wr.cell? ⟨b1, o1 + k * 5 + 0, none⟩ = some (.int .i64 y.id) := (HBw.cell (p := ⟨b1, _, none⟩) l1).trans (q1 k _ he 0 _ rfl)
      have y1 : wr.cell? ⟨b1, o1 + k * 5 + 1, none⟩ = some (.int .i64 y.bk) := (HBw.cell (p := ⟨b1, _, none⟩) l1).trans (q1 k _ he 1 _ rfl)
      have y2 : wr.cell? ⟨b1, o1 + k * 5 + 2, none⟩ = some (.string y.nm) := (HBw.cell (p := ⟨b1, _, none⟩) l1).trans (q1 k _ he 2 _ rfl)
      have y3 : wr.cell? ⟨b1, o1 + k * 5 + 3, none⟩ = some (.slice At y.tg.length ct) := (HBw.cell (p := ⟨b1, _, none⟩) l1).trans (q1 k _ he 3 _ rfl)
      have y4 : wr.cell? ⟨b1, o1 + k * 5 + 4, none⟩ = some (.slice As y.sh.length cs) := (HBw.cell (p := ⟨b1, _, none⟩) l1).trans (q1 k _ he 4 _ rfl)
      simp only [Nat.add_zero] at y0
      obtain ⟨yt, hyt2⟩ : ∃ n, y.tg.length = n := ⟨_, rfl⟩
      obtain ⟨ys, hys⟩ : ∃ n, y.sh.length = n := ⟨_, rfl⟩
      have HTK : Hid ((s.ts.take (k + 1)).flatMap (fun n => n.tg) = (s.ts.take k).flatMap (fun n => n.tg) ++ y.tg) := Lib.hid (by rw [List.take_add_one, hx, List.flatMap_append]; simp)
      have HTG := Lib.hid (HFF.out.tags hmem)
      have HLP := Lib.hid (flatTake_len HFF.out k)
      rw [hyt2] at y3 hsm
      rw [hys] at y4
      have HYT := Lib.hid hyt2
      obtain ⟨P, hP⟩ : ∃ P, (s.ts.take k).flatMap (fun n => n.tg) = P := ⟨_, rfl⟩
      rw [hP] at hO HTK HLP
      clear hx he q1 hmem hys hyt2 hP hlx
      go_upto_region 8 with fail
      obtain ⟨W, hW⟩ : ∃ V, V = wr.alloc (.cells #[.int .i64 y.id, .int .i64 y.bk, .string y.nm, .slice At yt ct, .slice As ys cs] 54) := ⟨_, rfl⟩
      have hal : Below wr.heap.size wr W := by rw [hW]; exact (Below.refl _ wr).alloc (Nat.le_refl _) _
      have hOW := hO.below hal
      have HBW := HBr.trans (hal.mono HBr.size)
      have hytW := (hyt.below (btr HBQ HBQ.size HBW)).mono_ (btr HBQ HBQ.size HBW).size
      rw [← hW]
      clear hW y0 y1 y2 y3 y4 hO HBr HBw hal hgl
      go_loopw [25] (fun i wx => ∃ j : Nat, j ≤ yt ∧ i = .int .i64 j ∧ OwnS wx w3.heap.size (4 * k + j) (cntT (P ++ y.tg.take j)) ∧ Below w3.heap.size w3 wx) (fun i _ => yt - (intOf i).toNat)
      case atStart => exact ⟨0, by omega, rfl, by rw [List.take_zero, List.append_nil]; exact hOW, HBW⟩
      case round =>
        clear hOW HBW
        obtain ⟨j, hj, rfl, hO, HBr⟩ := hrel
        have hgl := hO.lt
        by_cases hlt2 : j < yt
        · have j0 : (0 : Int) ≤ (j : Int) := by omega
          have j1 : (j : Int) < (yt : Int) := by omega
          have HBw := btr HBQ HBQ.size HBr
          obtain ⟨b2, o2, rfl, l2, q2⟩ := hyt.at_ (by rw [List.length_map]; have := HYT.out; omega)
          obtain ⟨z, hz⟩ : ∃ z, y.tg[j]? = some z := ⟨_, List.getElem?_eq_getElem (by have := HYT.out; omega)⟩
          have cz : wr.cell? ⟨b2, o2 + j, none⟩ = some (.string z) := (HBw.cell (p := ⟨b2, _, none⟩) l2).trans (q2 j _ (by rw [List.getElem?_map, hz]; rfl))
          have hzs : z.size ≤ maxLen := by have := mayN_len (HTG.out z (List.mem_of_getElem? hz)); unfold maxLen; omega
          obtain ⟨m, hm⟩ : ∃ m, cntT (P ++ y.tg.take j) z.data.toList = m := ⟨_, rfl⟩
          have hmb : m ≤ 1000 := by
            rw [← hm]
            have h1 := cntT_le (P ++ y.tg.take j) z.data.toList
            rw [List.length_append, List.length_take] at h1
            have h2 := HLP.out
            omega
          have HCN : Hid (cntT (P ++ y.tg.take (j + 1)) = fun q => if q = z.data.toList then m + 1 else cntT (P ++ y.tg.take j) q) := Lib.hid (by
            rw [List.take_add_one, hz]
            show cntT (P ++ (y.tg.take j ++ [z])) = _
            rw [← List.append_assoc, cntT_snoc, hm])
          have hmw : (m : Int) + 1 = ((m + 1 : Nat) : Int) := by omega
          have HMW := Lib.hid hmw
          have HM2 := Lib.hid hm
          clear hz q2 hm hmw
          go_wp2_with (first | (at_lookup; refine wpList_lookS _ rfl (.tmp 29) (.tmp 30) rfl w3.heap.size (4 * k + j) _ rfl hO z rfl hzs m HM2.out ?_) | (at_mapUpdate; refine wpList_putS _ rfl _ _ _ rfl w3.heap.size (4 * k + j) _ rfl hO (by omega) z rfl hzs (m + 1) (by omega) _ HMW.out rfl ?_; intro w4 ho4 hg4))
          rw [← HCN.out] at ho4
          have HF : Below w3.heap.size w3 w4 := HBr.grown hg4 HBr.size (fun j hj => by have := Option.some.inj hj; omega)
          clear hO hg4 cz
          go_roundw
          case rel => exact ⟨j + 1, by omega, by go_num, ho4, HF⟩
          case measure => simp [intOf]; omega
        · have hjn : j = yt := by omega
          subst hjn
          rw [List.take_of_length_le (by rw [HYT.out]; exact Nat.le_refl _)] at hO
          rw [← HTK.out] at hO
          go_wp2_with fail
          go_roundw
          case rel => exact ⟨k + 1, by omega, by go_num, hO.mono (by omega), HBr⟩
          case measure => simp [intOf]; omega
    · have hjn : k = n := by omega
      subst hjn
      rw [List.take_of_length_le (by rw [HN.out]; exact Nat.le_refl _)] at hO
      clear hlt hnt hse
      have HKA := Lib.hid (keysS_any w3.heap.size wr)
      have HSA := Lib.hid (sortedS_any w3.heap.size (4 * k) (cntT (tagsA s)) wr hO (by omega))
      have hal : Below wr.heap.size wr (wr.alloc (.cells #[.map (some w3.heap.size)] 86)) := (Below.refl _ wr).alloc (Nat.le_refl _) _
      have hOa := hO.below hal
      have HBa := HBr.trans (hal.mono HBr.size)
      have hsa : w3.heap.size ≤ (wr.alloc (.cells #[.map (some w3.heap.size)] 86)).heap.size := HBa.size
      clear hO HBr hgl
      go_upto_region 15 with (first | (go_at_call 55; ((with_reducible refine HKA.out.mono ?_); rintro e' w5 ⟨rfl, rfl⟩)) | (go_at_call 54; ((with_reducible refine HSA.out.mono ?_); rintro e' w6 ⟨v6, ks, rfl, HK, hrow, hb6⟩; obtain ⟨A6, c6, rfl, hc6, hm6⟩ := own_shape hrow)))
      have hO6 := hOa.below hb6
      have hKS := Sl.of_own hrow
      obtain ⟨m, hm⟩ : ∃ m, ks.length = m := ⟨_, rfl⟩
      have hm48 : m ≤ 48 := by have := HK.out.2.2.1; omega
      rw [hm]
      have HMK := Lib.hid hm
      have HB6 := btr (HBQ.trans (HBa.mono hw3)) (HBQ.trans (HBa.mono hw3)).size hb6
      have hw6 := HB6.size
      clear hm hrow hb6 hOa hc6 hm6 HBa hal
      go_loopw [8, 39] (fun sv i wr => ∃ j : Nat, j ≤ m ∧ i = .int .i64 j ∧ Hid (RowI wr w6.heap.size sv ((ks.take j).map (tagIt s))) ∧ Below w6.heap.size w6 wr) (fun _ i _ => m - (intOf i).toNat)
      case atStart => exact ⟨0, by omega, rfl, Lib.hid (World.ownsRow_nil _ _ _ _), Below.refl _ _⟩
      case round =>
        obtain ⟨j, hj, rfl, HR, HBr⟩ := hrel
        have hsz := HBr.size
        by_cases hlt : j < m
        · have hlx : j < ks.length := by have := HMK.out; omega
          have i0 : (0 : Int) ≤ (j : Int) := by omega
          have i1 : (j : Int) < (m : Int) := by omega
          obtain ⟨y, hx⟩ : ∃ y, ks[j]? = some y := ⟨_, List.getElem?_eq_getElem hlx⟩
          obtain ⟨b1, o1, rfl, l1, q1⟩ := hKS.at_ (by rw [List.length_map]; omega)
          have y0 : wr.cell? ⟨b1, o1 + j, none⟩ = some (.string (bOf y)) := (HBr.cell (p := ⟨b1, _, none⟩) l1).trans (q1 j _ (by rw [List.getElem?_map, hx]; rfl))
          have hys : (bOf y).size ≤ maxLen := by rw [bOf_size]; exact HK.out.2.2.2 y (List.mem_of_getElem? hx)
          have hor := hO6.below HBr
          obtain ⟨L, hL⟩ : ∃ L, (ks.take j).map (tagIt s) = L := ⟨_, rfl⟩
          have hL6 : L.length ≤ 48 := by
            rw [← hL, List.length_map, List.length_take]
            omega
          rw [hL] at HR
          have HLN : Hid ((ks.take (j + 1)).map (tagIt s) = L ++ [tagIt s y]) := Lib.hid (by rw [List.take_add_one, hx, List.map_append, hL]; rfl)
          have hon : wr.ownsRow w6.heap.size 50 2 _ L.length (L.flatMap itC) := HR.out
          obtain ⟨cn, hcn⟩ : ∃ c, cntT (tagsA s) y = c := ⟨_, rfl⟩
          have HCN : Hid (cntT (tagsA s) (bOf y).data.toList = cn) := Lib.hid (by rw [bOf_l, hcn])
          have HTI : Hid (tagIt s y = ⟨(cn : Int), bOf y⟩) := Lib.hid (by unfold tagIt; rw [hcn])
          rw [HTI.out] at HLN
          obtain ⟨Y, hY⟩ : ∃ Y, bOf y = Y := ⟨_, rfl⟩
          rw [hY] at y0 hys HCN HLN
          clear HR hL hx q1 hlx hcn hY HTI
          go_wp2_with (first | (at_lookup; refine wpList_lookS _ rfl (.tmp 44) (.tmp 45) rfl w3.heap.size (4 * k) _ rfl hor Y rfl hys cn HCN.out ?_) | (at_builtin; obtain ⟨ti0, hi, hz0, hz1, hz2⟩ := info_parts infoIt; refine wpList_app _ rfl (.tmp 43) (.tmp 49) _ rfl w6.heap.size 50 ti0 _ 2 24 Tryz.underlying29 hi hz0 hz1 hz2 rfl (by decide) _ L.length (L.flatMap itC) rfl (hon.alloc _) _ 1 _ (itC ⟨(cn : Int), Y⟩) rfl (rd_newI _ ⟨(cn : Int), Y⟩ (by simp)) (one1I _) (by unfold maxLen; omega) (by omega) (by simp; omega) ?_; intro v' w' ho' hg' hv'; clear hi hz0 hz1 hz2))
          have HF : Below w6.heap.size w6 w' := (HBr.alloc HBr.size _).trans (below_app (by omega) (by simp; omega) (hon.alloc _) hg')
          have HR2 : Hid (RowI w' w6.heap.size v' ((ks.take (j + 1)).map (tagIt s))) := Lib.hid (by rw [HLN.out]; exact RowI.snoc ho')
          clear ho' hg' hv' hon y0 hor
          go_roundw
          case rel => exact ⟨j + 1, by omega, by go_num, HR2, HF⟩
          case measure => simp [intOf]; omega
        · have hjn : j = m := by omega
          subst hjn
          rw [List.take_of_length_le (by rw [HMK.out]; exact Nat.le_refl _)] at HR
          have HRo := HR.out
          unfold RowI at HRo
          rw [flat_mapI, List.length_map] at HRo
          obtain ⟨A8, c8, rfl, hc8, hm8⟩ := own_shape HRo
          have HRO := Lib.hid HRo
          clear HRo HR hc8 hm8 hlt
          go_wp2_with fail
          go_ret
          exact ⟨A8, c8, ks, rfl, HK.out.1, fun p => (HK.out.2.1 p).trans (cntT_pos _ _), own_base HRO.out hw6, HB6.trans (HBr.mono hw6)⟩
end Go.Proofs.YteokeghenjobaaaGreatDoor
namespace Go.Proofs.YteokeghenjobaaaGreatDoor
open Go.ChangeShapes Go.WideShapes Go.ChangeAt Go.RowKit
attribute [local go_sem ↓] Go.wp_at_zero Go.wp_at_succ
def sA : ByteArray := ⟨#[97]⟩
def sB : ByteArray := ⟨#[98]⟩
def sf0 : Sf := ⟨1, 1, 1, [], []⟩
def sf1 : Sf := makeS sf0 sB
def sf2 : Sf := makeS sf1 sA
theorem ShR.zero (w : World) : ShR w w.heap.size (.agg #[.int .i64 1, .int .i64 1, .int .i64 1, .slice none 0 0, .slice none 0 0]) sf0 := ⟨none, 0, none, 0, rfl, Or.inl rfl, ⟨[], rfl, Or.inl rfl, fun k n e h => by simp [sf0] at h⟩, by decide, by decide, by decide, by decide⟩
end Go.Proofs.YteokeghenjobaaaGreatDoor
namespace Go.Proofs.YteokeghenjobaaaGreatDoor
open Go.ChangeShapes Go.WideShapes Go.ChangeAt Go.RowKit
attribute [local go_sem ↓] Go.wp_at_zero Go.wp_at_succ
structure DInv {α : Type} (ps : List (α × List Value)) (p : α → Bool) (i j : Nat) (qs : List (α × List Value)) : Prop where
  len : qs.length = ps.length
  tk : qs.take i = (ps.take j).filter (fun x => !p x.1)
  il : i = ((ps.take j).filter (fun x => !p x.1)).length
  dr : qs.drop j = ps.drop j
  lt : i < j
  le : j ≤ ps.length
theorem DInv.get {α : Type} {ps qs : List (α × List Value)} {p : α → Bool} {i j : Nat} (h : DInv ps p i j qs) {x : α × List Value} (hx : ps[j]? = some x) : qs[j]? = some x := by
  have h1 : (qs.drop j)[0]? = (ps.drop j)[0]? := by rw [h.dr]
  rw [List.getElem?_drop, List.getElem?_drop] at h1
  simpa [hx] using h1
theorem DInv.keep {α : Type} {ps qs : List (α × List Value)} {p : α → Bool} {i j : Nat} (h : DInv ps p i j qs) {x : α × List Value} (hx : ps[j]? = some x) (hp : p x.1 = false) : DInv ps p (i + 1) (j + 1) (qs.set i x) := by
  have hlt := (List.getElem?_eq_some_iff.1 hx).1
  have hl := h.len
  have hij := h.lt
  have h1 : (ps.take (j + 1)).filter (fun x => !p x.1) = (ps.take j).filter (fun x => !p x.1) ++ [x] := filter_yes hx (by simp [hp])
  refine ⟨by rw [List.length_set]; exact hl, ?_, by rw [h1, List.length_append, ← h.il]; rfl, ?_, by omega, by omega⟩
  · rw [h1, ← h.tk, List.take_add_one, List.getElem?_set]
    rw [if_pos rfl, if_pos (by omega), List.take_set_of_le (Nat.le_refl _)]
    rfl
  · rw [List.drop_set_of_lt (by omega), ← List.drop_drop, h.dr, List.drop_drop]
theorem DInv.skip {α : Type} {ps qs : List (α × List Value)} {p : α → Bool} {i j : Nat} (h : DInv ps p i j qs) {x : α × List Value} (hx : ps[j]? = some x) (hp : p x.1 = true) : DInv ps p i (j + 1) qs := by
  have hlt := (List.getElem?_eq_some_iff.1 hx).1
  have h1 : (ps.take (j + 1)).filter (fun x => !p x.1) = (ps.take j).filter (fun x => !p x.1) := filter_no hx (by simp [hp])
  have := h.lt
  exact ⟨h.len, by rw [h1]; exact h.tk, by rw [h1]; exact h.il, by rw [← List.drop_drop, h.dr, List.drop_drop], by omega, by omega⟩
def st2 (w : World) (g o : Nat) (a0 a1 : Value) : World := World.setCell (World.setCell w ⟨g, o, none⟩ a0) ⟨g, o + 1, none⟩ a1
end Go.Proofs.YteokeghenjobaaaGreatDoor
namespace Go.Proofs.YteokeghenjobaaaGreatDoor
open Go.ChangeShapes Go.WideShapes Go.ChangeAt Go.RowKit
attribute [local go_sem ↓] Go.wp_at_zero Go.wp_at_succ
end Go.Proofs.YteokeghenjobaaaGreatDoor
namespace Go.Proofs.YteokeghenjobaaaGreatDoor
open Go.ChangeShapes Go.WideShapes Go.ChangeAt Go.RowKit
attribute [local go_sem ↓] Go.wp_at_zero Go.wp_at_succ
def dropC (s : Sf) (x : Int) : Int := cond (mayS s) (cond (decide (bookAt s x < 0)) 4 0) 2
def dropS (s : Sf) (x : Int) : Sf := { s with bs := s.bs.filter (fun b => !(b.id == x)), ts := s.ts.filter (fun n => !(n.bk == x)) }
def discC (s : Sf) (x : Int) : Int := cond (mayS s) (cond (decide (noteAt s x < 0)) 4 0) 2
def discS (s : Sf) (x : Int) : Sf := { s with ts := s.ts.filter (fun n => !(n.id == x)) }
end Go.Proofs.YteokeghenjobaaaGreatDoor
namespace Go.Proofs.YteokeghenjobaaaGreatDoor
open Go.ChangeShapes Go.WideShapes Go.ChangeAt Go.RowKit
attribute [local go_sem ↓] Go.wp_at_zero Go.wp_at_succ
theorem sameTexts_yes (L : List ByteArray) (A B : Option Addr) (c d : Nat) (w : World) (n1 : L.length ≤ 1000000) (h1 : Sl w w.heap.size A (L.map strV)) (h2 : Sl w w.heap.size B (L.map strV)) : Calls Tryz.prog 21 #[.slice A L.length c, .slice B L.length d] w fun e' w' => e' = .returned (.bool true) ∧ Below w.heap.size w w' := by
  obtain ⟨n, hn⟩ : ∃ n, L.length = n := ⟨_, rfl⟩
  rw [hn] at n1 ⊢
  have HN := Lib.hid hn
  have H1 := Lib.hid h1
  have H2 := Lib.hid h2
  clear hn h1 h2
  go_enter Tryz.func21, Tryz.ntmps21
  go_wp2_with fail
  go_loopw [5] (fun s5 wr => ∃ k : Nat, k ≤ n ∧ s5 = .int .i64 (k : Int) ∧ Below w.heap.size w wr) (fun s5 _ => n - (intOf s5).toNat)
  case atStart => exact ⟨0, Nat.zero_le _, rfl, Below.refl _ _⟩
  case round =>
    obtain ⟨k, hk, rfl, hB⟩ := hrel
    by_cases hlt : k < n
    · have hlx : k < L.length := by have := HN.out; omega
      obtain ⟨b1, o1, rfl, l1, q1⟩ := (Sl.below H1.out hB).at_ (by rw [List.length_map]; omega)
      obtain ⟨b2, o2, rfl, l2, q2⟩ := (Sl.below H2.out hB).at_ (by rw [List.length_map]; omega)
      obtain ⟨x, hx⟩ : ∃ x, L[k]? = some x := ⟨_, List.getElem?_eq_getElem hlx⟩
      have x0 := q1 k (.string x) (by rw [List.getElem?_map, hx]; rfl)
      have y0 := q2 k (.string x) (by rw [List.getElem?_map, hx]; rfl)
      have k0 : (0 : Int) ≤ (k : Int) := by omega
      have k1 : (k : Int) < (n : Int) := by omega
      clear hx q1 q2 hlx
      go_upto_region 6 with fail
      refine wp_region_noPanic ?_
      refine wp_region_held_drew (S := (fun w_ => w_.cell? ⟨b1, o1 + k, none⟩ = some (.string x) ∧ w_.cell? ⟨b2, o2 + k, none⟩ = some (.string x))) (by kernel_rfl) ?_ (fun hHeld => ?_)
      · (first | exact ⟨x0, y0⟩ | assumption)
      refine tk 0 ⟨some 17, .move (.tmp 0), 38, "same.go:64", #[], none⟩ ?_; try simp only [Act.put, pz1, pz2, pz3]
      refine tk 1 ⟨some 18, .move (.tmp 5), 3, "same.go:64", #[], none⟩ ?_; try simp only [Act.put, pz1, pz2, pz3]
      refine tk 2 ⟨some 19, .indexAddr 38 (.tmp 17) (.tmp 18), 0, "same.go:64", #[⟨0, .data⟩, ⟨1, .data⟩], none⟩ ?_; try simp only [Act.put, pz1, pz2, pz3]
      refine tk 3 ⟨some 20, .load 9 (.tmp 19), 9, "same.go:64", #[⟨2, .data⟩], none⟩ ?_; try simp only [Act.put, pz1, pz2, pz3]
      refine tk 4 ⟨some 21, .move (.tmp 1), 38, "same.go:64", #[], none⟩ ?_; try simp only [Act.put, pz1, pz2, pz3]
      refine tk 5 ⟨some 22, .move (.tmp 5), 3, "same.go:64", #[], none⟩ ?_; try simp only [Act.put, pz1, pz2, pz3]
      refine tk 6 ⟨some 23, .indexAddr 38 (.tmp 21) (.tmp 22), 0, "same.go:64", #[⟨4, .data⟩, ⟨5, .data⟩], none⟩ ?_; try simp only [Act.put, pz1, pz2, pz3]
      refine tk 7 ⟨some 24, .load 9 (.tmp 23), 9, "same.go:64", #[⟨6, .data⟩], none⟩ ?_; try simp only [Act.put, pz1, pz2, pz3]
      refine tk 8 ⟨some 25, .binOp .neq 9 (.tmp 20) (.tmp 24) 9, 4, "same.go:64", #[⟨3, .data⟩, ⟨7, .data⟩], none⟩ ?_; try simp only [Act.put, pz1, pz2, pz3]
      refine wpAnyH_done (by kernel_rfl) ?_ _
      refine NoPanic.normal ?_
      go_wp2_with fail
      go_roundw
      case rel => exact ⟨k + 1, by omega, by go_num, (by first | exact hB | exact drew_below hB)⟩
      case measure => simp [intOf]; omega
    · obtain rfl : k = n := by omega
      go_wp2_with fail
      go_ret
      exact ⟨rfl, hB⟩
end Go.Proofs.YteokeghenjobaaaGreatDoor
namespace Go.Proofs.YteokeghenjobaaaGreatDoor
open Go.ChangeShapes Go.WideShapes Go.ChangeAt Go.RowKit
attribute [local go_sem ↓] Go.wp_at_zero Go.wp_at_succ
attribute [local go_sem] Oper.semAt_some
theorem own_lit (w : World) (cs : Array Value) (t : TypeId) (C n base : Nat) (hb : base ≤ w.heap.size) (hn : cs.size = n * C) (hm : n ≤ maxLen) : (w.alloc (.cells cs t)).ownsRow base t C (.slice (some ⟨w.heap.size, 0, none⟩) n n) n cs.toList := by
  refine ⟨by rw [Array.length_toList]; exact hn, Or.inr ⟨w.heap.size, n, cs, rfl, hb, heap_alloc_new w _, Nat.le_refl _, hm, hn, ?_⟩⟩
  rw [← hn, ← Array.length_toList, List.take_length]
theorem lit_slE (w : World) (cs : Array Value) (t : TypeId) (C n : Nat) (es : List (List Value)) (h : cs.toList = es.flatten) (hC : ∀ x ∈ es, x.length = C) (hl : es.length = n) (hm : n ≤ maxLen) (h0 : 0 < C) : SlE C (w.alloc (.cells cs t)) (w.alloc (.cells cs t)).heap.size (some ⟨w.heap.size, 0, none⟩) es := by
  have hsz : cs.size = n * C := by rw [← Array.length_toList, h, flat_lenE es hC, hl]
  have ho := own_lit w cs t C n 0 (Nat.zero_le _) hsz hm
  rw [h] at ho
  exact sle_of_own ho hC h0
theorem lit_sl (w : World) (cs : Array Value) (t : TypeId) (n : Nat) (vs : List Value) (h : cs.toList = vs) (hl : vs.length = n) (hm : n ≤ maxLen) : Sl (w.alloc (.cells cs t)) (w.alloc (.cells cs t)).heap.size (some ⟨w.heap.size, 0, none⟩) vs := by
  have hsz : cs.size = n * 1 := by rw [← Array.length_toList, h, hl, Nat.mul_one]
  have ho := own_lit w cs t 1 n 0 (Nat.zero_le _) hsz hm
  rw [h] at ho
  exact Sl.of_own ho
def nX : ByteArray := ⟨#[120]⟩
def nY : ByteArray := ⟨#[121]⟩
def nNot : ByteArray := ⟨#[110, 111, 116]⟩
def nToBe : ByteArray := ⟨#[116, 111, 32, 98, 101]⟩
def nB : ByteArray := ⟨#[98]⟩
def t1N : Nt := ⟨1, 1, nToBe, [nX], []⟩
def t2N : Nt := ⟨2, 1, nNot, [nX, nY], []⟩
def sT : Sf := ⟨2, 3, 1, [⟨1, nB⟩], [t1N, t2N]⟩
theorem mayT : mayS sT = true := by decide +kernel
theorem two_any (w : World) : Calls Tryz.prog 34 #[] w fun e' w' => ∃ v', e' = .returned v' ∧ ShR w' w'.heap.size v' sT ∧ Below w.heap.size w w' := by
  have B2 := Blk.new_ w 25 #[.int .i64 2, .int .i64 3, .int .i64 1, .slice (some ⟨w.heap.size + 1, 0, none⟩) 1 1, .slice (some ⟨w.heap.size + 1 + 1 + 1 + 1, 0, none⟩) 2 2]
  have oB := own_lit (w.alloc (.cells #[.int .i64 2, .int .i64 3, .int .i64 1, .slice (some ⟨w.heap.size + 1, 0, none⟩) 1 1, .slice (some ⟨w.heap.size + 1 + 1 + 1 + 1, 0, none⟩) 2 2] 25)) #[.int .i64 1, .string ⟨#[98]⟩] 60 2 1 (w.heap.size + 1) (by simp) rfl (by decide)
  have o1 := own_lit ((w.alloc (.cells #[.int .i64 2, .int .i64 3, .int .i64 1, .slice (some ⟨w.heap.size + 1, 0, none⟩) 1 1, .slice (some ⟨w.heap.size + 1 + 1 + 1 + 1, 0, none⟩) 2 2] 25)).alloc (.cells #[.int .i64 1, .string ⟨#[98]⟩] 60)) #[.string ⟨#[120]⟩] 9 1 1 (w.heap.size + 1) (by simp) rfl (by decide)
  have o2 := own_lit (((w.alloc (.cells #[.int .i64 2, .int .i64 3, .int .i64 1, .slice (some ⟨w.heap.size + 1, 0, none⟩) 1 1, .slice (some ⟨w.heap.size + 1 + 1 + 1 + 1, 0, none⟩) 2 2] 25)).alloc (.cells #[.int .i64 1, .string ⟨#[98]⟩] 60)).alloc (.cells #[.string ⟨#[120]⟩] 9)) #[.string ⟨#[120]⟩, .string ⟨#[121]⟩] 9 1 2 (w.heap.size + 1) (by first | (simp; done) | (simp; omega)) rfl (by decide)
  have oN := own_lit ((((w.alloc (.cells #[.int .i64 2, .int .i64 3, .int .i64 1, .slice (some ⟨w.heap.size + 1, 0, none⟩) 1 1, .slice (some ⟨w.heap.size + 1 + 1 + 1 + 1, 0, none⟩) 2 2] 25)).alloc (.cells #[.int .i64 1, .string ⟨#[98]⟩] 60)).alloc (.cells #[.string ⟨#[120]⟩] 9)).alloc (.cells #[.string ⟨#[120]⟩, .string ⟨#[121]⟩] 9)) #[.int .i64 1, .int .i64 1, .string ⟨#[116, 111, 32, 98, 101]⟩, .slice (some ⟨w.heap.size + 1 + 1, 0, none⟩) 1 1, .slice none 0 0, .int .i64 2, .int .i64 1, .string ⟨#[110, 111, 116]⟩, .slice (some ⟨w.heap.size + 1 + 1 + 1, 0, none⟩) 2 2, .slice none 0 0] 54 5 2 (w.heap.size + 1) (by first | (simp; done) | (simp; omega)) rfl (by decide)
  simp only [World.size_alloc] at oB o1 o2 oN
  have a1 : Below (((w.alloc (.cells #[.int .i64 2, .int .i64 3, .int .i64 1, .slice (some ⟨w.heap.size + 1, 0, none⟩) 1 1, .slice (some ⟨w.heap.size + 1 + 1 + 1 + 1, 0, none⟩) 2 2] 25)).alloc (.cells #[.int .i64 1, .string ⟨#[98]⟩] 60))).heap.size ((w.alloc (.cells #[.int .i64 2, .int .i64 3, .int .i64 1, .slice (some ⟨w.heap.size + 1, 0, none⟩) 1 1, .slice (some ⟨w.heap.size + 1 + 1 + 1 + 1, 0, none⟩) 2 2] 25)).alloc (.cells #[.int .i64 1, .string ⟨#[98]⟩] 60)) (((w.alloc (.cells #[.int .i64 2, .int .i64 3, .int .i64 1, .slice (some ⟨w.heap.size + 1, 0, none⟩) 1 1, .slice (some ⟨w.heap.size + 1 + 1 + 1 + 1, 0, none⟩) 2 2] 25)).alloc (.cells #[.int .i64 1, .string ⟨#[98]⟩] 60)).alloc (.cells #[.string ⟨#[120]⟩] 9)) := (Below.refl _ _).alloc (Nat.le_refl _) _
  have a2 : Below ((((w.alloc (.cells #[.int .i64 2, .int .i64 3, .int .i64 1, .slice (some ⟨w.heap.size + 1, 0, none⟩) 1 1, .slice (some ⟨w.heap.size + 1 + 1 + 1 + 1, 0, none⟩) 2 2] 25)).alloc (.cells #[.int .i64 1, .string ⟨#[98]⟩] 60)).alloc (.cells #[.string ⟨#[120]⟩] 9))).heap.size (((w.alloc (.cells #[.int .i64 2, .int .i64 3, .int .i64 1, .slice (some ⟨w.heap.size + 1, 0, none⟩) 1 1, .slice (some ⟨w.heap.size + 1 + 1 + 1 + 1, 0, none⟩) 2 2] 25)).alloc (.cells #[.int .i64 1, .string ⟨#[98]⟩] 60)).alloc (.cells #[.string ⟨#[120]⟩] 9)) ((((w.alloc (.cells #[.int .i64 2, .int .i64 3, .int .i64 1, .slice (some ⟨w.heap.size + 1, 0, none⟩) 1 1, .slice (some ⟨w.heap.size + 1 + 1 + 1 + 1, 0, none⟩) 2 2] 25)).alloc (.cells #[.int .i64 1, .string ⟨#[98]⟩] 60)).alloc (.cells #[.string ⟨#[120]⟩] 9)).alloc (.cells #[.string ⟨#[120]⟩, .string ⟨#[121]⟩] 9)) := (Below.refl _ _).alloc (Nat.le_refl _) _
  have a3 : Below (((((w.alloc (.cells #[.int .i64 2, .int .i64 3, .int .i64 1, .slice (some ⟨w.heap.size + 1, 0, none⟩) 1 1, .slice (some ⟨w.heap.size + 1 + 1 + 1 + 1, 0, none⟩) 2 2] 25)).alloc (.cells #[.int .i64 1, .string ⟨#[98]⟩] 60)).alloc (.cells #[.string ⟨#[120]⟩] 9)).alloc (.cells #[.string ⟨#[120]⟩, .string ⟨#[121]⟩] 9))).heap.size ((((w.alloc (.cells #[.int .i64 2, .int .i64 3, .int .i64 1, .slice (some ⟨w.heap.size + 1, 0, none⟩) 1 1, .slice (some ⟨w.heap.size + 1 + 1 + 1 + 1, 0, none⟩) 2 2] 25)).alloc (.cells #[.int .i64 1, .string ⟨#[98]⟩] 60)).alloc (.cells #[.string ⟨#[120]⟩] 9)).alloc (.cells #[.string ⟨#[120]⟩, .string ⟨#[121]⟩] 9)) (((((w.alloc (.cells #[.int .i64 2, .int .i64 3, .int .i64 1, .slice (some ⟨w.heap.size + 1, 0, none⟩) 1 1, .slice (some ⟨w.heap.size + 1 + 1 + 1 + 1, 0, none⟩) 2 2] 25)).alloc (.cells #[.int .i64 1, .string ⟨#[98]⟩] 60)).alloc (.cells #[.string ⟨#[120]⟩] 9)).alloc (.cells #[.string ⟨#[120]⟩, .string ⟨#[121]⟩] 9)).alloc (.cells #[.int .i64 1, .int .i64 1, .string ⟨#[116, 111, 32, 98, 101]⟩, .slice (some ⟨w.heap.size + 1 + 1, 0, none⟩) 1 1, .slice none 0 0, .int .i64 2, .int .i64 1, .string ⟨#[110, 111, 116]⟩, .slice (some ⟨w.heap.size + 1 + 1 + 1, 0, none⟩) 2 2, .slice none 0 0] 54)) := (Below.refl _ _).alloc (Nat.le_refl _) _
  have HBE : Below w.heap.size w (((((w.alloc (.cells #[.int .i64 2, .int .i64 3, .int .i64 1, .slice (some ⟨w.heap.size + 1, 0, none⟩) 1 1, .slice (some ⟨w.heap.size + 1 + 1 + 1 + 1, 0, none⟩) 2 2] 25)).alloc (.cells #[.int .i64 1, .string ⟨#[98]⟩] 60)).alloc (.cells #[.string ⟨#[120]⟩] 9)).alloc (.cells #[.string ⟨#[120]⟩, .string ⟨#[121]⟩] 9)).alloc (.cells #[.int .i64 1, .int .i64 1, .string ⟨#[116, 111, 32, 98, 101]⟩, .slice (some ⟨w.heap.size + 1 + 1, 0, none⟩) 1 1, .slice none 0 0, .int .i64 2, .int .i64 1, .string ⟨#[110, 111, 116]⟩, .slice (some ⟨w.heap.size + 1 + 1 + 1, 0, none⟩) 2 2, .slice none 0 0] 54)) := ((((((Below.refl _ w).alloc (Nat.le_refl _) _).alloc (by simp) _).alloc (by first | (simp; done) | (simp; omega)) _).alloc (by first | (simp; done) | (simp; omega)) _).alloc (by first | (simp; done) | (simp; omega)) _)
  have oBE := own_belowW (own_belowW (own_belowW oB a1) a2) a3
  have o1E := own_belowW (own_belowW o1 a2) a3
  have o2E := own_belowW o2 a3
  have B2E := (((B2.alloc_ (.cells #[.int .i64 1, .string ⟨#[98]⟩] 60)).alloc_ (.cells #[.string ⟨#[120]⟩] 9)).alloc_ (.cells #[.string ⟨#[120]⟩, .string ⟨#[121]⟩] 9)).alloc_ (.cells #[.int .i64 1, .int .i64 1, .string ⟨#[116, 111, 32, 98, 101]⟩, .slice (some ⟨w.heap.size + 1 + 1, 0, none⟩) 1 1, .slice none 0 0, .int .i64 2, .int .i64 1, .string ⟨#[110, 111, 116]⟩, .slice (some ⟨w.heap.size + 1 + 1 + 1, 0, none⟩) 2 2, .slice none 0 0] 54)
  have f0 := B2E.free 0
  have f1 := B2E.free 1
  have f2 := B2E.free 2
  have f3 := B2E.free 3
  have f4 := B2E.free 4
  obtain ⟨c0, c1, c2, c3, c4⟩ := cell5 B2E
  have hsE : ((((((w.alloc (.cells #[.int .i64 2, .int .i64 3, .int .i64 1, .slice (some ⟨w.heap.size + 1, 0, none⟩) 1 1, .slice (some ⟨w.heap.size + 1 + 1 + 1 + 1, 0, none⟩) 2 2] 25)).alloc (.cells #[.int .i64 1, .string ⟨#[98]⟩] 60)).alloc (.cells #[.string ⟨#[120]⟩] 9)).alloc (.cells #[.string ⟨#[120]⟩, .string ⟨#[121]⟩] 9)).alloc (.cells #[.int .i64 1, .int .i64 1, .string ⟨#[116, 111, 32, 98, 101]⟩, .slice (some ⟨w.heap.size + 1 + 1, 0, none⟩) 1 1, .slice none 0 0, .int .i64 2, .int .i64 1, .string ⟨#[110, 111, 116]⟩, .slice (some ⟨w.heap.size + 1 + 1 + 1, 0, none⟩) 2 2, .slice none 0 0] 54))).heap.size = w.heap.size + 5 := by simp
  have BKE : BksW (((((w.alloc (.cells #[.int .i64 2, .int .i64 3, .int .i64 1, .slice (some ⟨w.heap.size + 1, 0, none⟩) 1 1, .slice (some ⟨w.heap.size + 1 + 1 + 1 + 1, 0, none⟩) 2 2] 25)).alloc (.cells #[.int .i64 1, .string ⟨#[98]⟩] 60)).alloc (.cells #[.string ⟨#[120]⟩] 9)).alloc (.cells #[.string ⟨#[120]⟩, .string ⟨#[121]⟩] 9)).alloc (.cells #[.int .i64 1, .int .i64 1, .string ⟨#[116, 111, 32, 98, 101]⟩, .slice (some ⟨w.heap.size + 1 + 1, 0, none⟩) 1 1, .slice none 0 0, .int .i64 2, .int .i64 1, .string ⟨#[110, 111, 116]⟩, .slice (some ⟨w.heap.size + 1 + 1 + 1, 0, none⟩) 2 2, .slice none 0 0] 54)) (w.heap.size + 1) (.slice (some ⟨w.heap.size + 1, 0, none⟩) 1 1) sT.bs := oBE
  have NTE : NtsW (((((w.alloc (.cells #[.int .i64 2, .int .i64 3, .int .i64 1, .slice (some ⟨w.heap.size + 1, 0, none⟩) 1 1, .slice (some ⟨w.heap.size + 1 + 1 + 1 + 1, 0, none⟩) 2 2] 25)).alloc (.cells #[.int .i64 1, .string ⟨#[98]⟩] 60)).alloc (.cells #[.string ⟨#[120]⟩] 9)).alloc (.cells #[.string ⟨#[120]⟩, .string ⟨#[121]⟩] 9)).alloc (.cells #[.int .i64 1, .int .i64 1, .string ⟨#[116, 111, 32, 98, 101]⟩, .slice (some ⟨w.heap.size + 1 + 1, 0, none⟩) 1 1, .slice none 0 0, .int .i64 2, .int .i64 1, .string ⟨#[110, 111, 116]⟩, .slice (some ⟨w.heap.size + 1 + 1 + 1, 0, none⟩) 2 2, .slice none 0 0] 54)) (w.heap.size + 1) (.slice (some ⟨w.heap.size + 1 + 1 + 1 + 1, 0, none⟩) 2 2) sT.ts := by
    refine ⟨[ntC t1N (.slice (some ⟨w.heap.size + 1 + 1, 0, none⟩) 1 1) (.slice none 0 0), ntC t2N (.slice (some ⟨w.heap.size + 1 + 1 + 1, 0, none⟩) 2 2) (.slice none 0 0)], rfl, oN, ?_⟩
    intro k n e hn he
    match k, hn, he with
    | 0, hn, he =>
      cases hn
      cases he
      exact ⟨_, _, rfl, o1E, World.ownsRow_nil _ _ _ _⟩
    | 1, hn, he =>
      cases hn
      cases he
      exact ⟨_, _, rfl, o2E, World.ownsRow_nil _ _ _ _⟩
    | k + 2, hn, he => simp [sT] at hn
  clear oB o1 o2 oN a1 a2 a3 oBE o1E o2E B2
  go_enter Tryz.func34, Tryz.ntmps34
  go_upto_region 1 with fail
  go_wp2_with fail
  have hSW := (ShW.make (s := sT) BKE NTE).toR
  change bodyPost _ _ _ _ _ (((((w.alloc (.cells #[.int .i64 2, .int .i64 3, .int .i64 1, .slice (some ⟨w.heap.size + 1, 0, none⟩) 1 1, .slice (some ⟨w.heap.size + 1 + 1 + 1 + 1, 0, none⟩) 2 2] 25)).alloc (.cells #[.int .i64 1, .string ⟨#[98]⟩] 60)).alloc (.cells #[.string ⟨#[120]⟩] 9)).alloc (.cells #[.string ⟨#[120]⟩, .string ⟨#[121]⟩] 9)).alloc (.cells #[.int .i64 1, .int .i64 1, .string ⟨#[116, 111, 32, 98, 101]⟩, .slice (some ⟨w.heap.size + 1 + 1, 0, none⟩) 1 1, .slice none 0 0, .int .i64 2, .int .i64 1, .string ⟨#[110, 111, 116]⟩, .slice (some ⟨w.heap.size + 1 + 1 + 1, 0, none⟩) 2 2, .slice none 0 0] 54))
  generalize (((((w.alloc (.cells #[.int .i64 2, .int .i64 3, .int .i64 1, .slice (some ⟨w.heap.size + 1, 0, none⟩) 1 1, .slice (some ⟨w.heap.size + 1 + 1 + 1 + 1, 0, none⟩) 2 2] 25)).alloc (.cells #[.int .i64 1, .string ⟨#[98]⟩] 60)).alloc (.cells #[.string ⟨#[120]⟩] 9)).alloc (.cells #[.string ⟨#[120]⟩, .string ⟨#[121]⟩] 9)).alloc (.cells #[.int .i64 1, .int .i64 1, .string ⟨#[116, 111, 32, 98, 101]⟩, .slice (some ⟨w.heap.size + 1 + 1, 0, none⟩) 1 1, .slice none 0 0, .int .i64 2, .int .i64 1, .string ⟨#[110, 111, 116]⟩, .slice (some ⟨w.heap.size + 1 + 1 + 1, 0, none⟩) 2 2, .slice none 0 0] 54)) = WF at B2E HBE hSW ⊢
  apply bodyPost_ret (v := .agg #[.int .i64 2, .int .i64 3, .int .i64 1, .slice (some ⟨w.heap.size + 1, 0, none⟩) 1 1, .slice (some ⟨w.heap.size + 1 + 1 + 1 + 1, 0, none⟩) 2 2])
  · exact results_cell_row Tryz.results34 _ WF w.heap.size 25 _ (0, 0) _ rfl B2E Tryz.underlying25 rfl (by kernel_rfl)
  · rfl
  · exact ⟨_, rfl, hSW, HBE⟩
theorem aw1 : wordsL [116, 111, 32, 98, 101] = [[98, 101], [116, 111]] := by
  symm
  refine words_of (by decide) (fun x => ?_)
  rw [show splitL [116, 111, 32, 98, 101] = [[116, 111], [98, 101]] from rfl]
  simp only [List.mem_cons, List.not_mem_nil, or_false]
  constructor
  · rintro (rfl | rfl) <;> simp
  · rintro ⟨rfl | rfl, _⟩ <;> simp
theorem aw0 : wordsL [110, 111, 116] = [[110, 111, 116]] := by
  symm
  refine words_of (by decide) (fun x => ?_)
  rw [show splitL [110, 111, 116] = [[110, 111, 116]] from rfl]
  simp only [List.mem_cons, List.not_mem_nil, or_false]
  constructor
  · rintro rfl
    simp
  · rintro ⟨rfl, _⟩
    simp
theorem aw2 : wordsL [116, 111, 32, 98, 101, 32, 111, 114, 32, 110, 111, 116, 32, 116, 111, 32, 98, 101] = [[98, 101], [110, 111, 116], [111, 114], [116, 111]] := by
  symm
  refine words_of (by decide) (fun x => ?_)
  rw [show splitL [116, 111, 32, 98, 101, 32, 111, 114, 32, 110, 111, 116, 32, 116, 111, 32, 98, 101] = [[116, 111], [98, 101], [111, 114], [110, 111, 116], [116, 111], [98, 101]] from rfl]
  simp only [List.mem_cons, List.not_mem_nil, or_false]
  constructor
  · rintro (rfl | rfl | rfl | rfl) <;> simp
  · rintro ⟨rfl | rfl | rfl | rfl | rfl | rfl, _⟩ <;> simp
theorem ar1 : readL [97, 32, 32, 98] = none := by rfl
theorem ar2 : readL [35, 120, 32, 33, 98, 101] = some [⟨false, 35, [120]⟩, ⟨true, 0, [98, 101]⟩] := by rfl
theorem ah0 : soB ⟨true, 0, [98, 101]⟩ t1N nB = false := by
  unfold soB matB
  rw [if_neg (by decide), if_neg (by decide), show t1N.nm.toList = [116, 111, 32, 98, 101] from by decide +kernel, aw1]
  decide +kernel
theorem ah01 : soB ⟨true, 0, [98, 101]⟩ t2N nB = true := by
  unfold soB matB
  rw [if_neg (by decide), if_neg (by decide), show t2N.nm.toList = [110, 111, 116] from by decide +kernel, aw0]
  decide +kernel
theorem ah02 : soB ⟨false, 35, [120]⟩ t2N nB = true := by
  unfold soB matB
  rw [if_pos rfl]
  decide +kernel
theorem ah1 : hitB sT [⟨false, 35, [120]⟩, ⟨true, 0, [98, 101]⟩] t1N = false := by
  unfold hitB
  rw [show bkNm sT t1N.bk = nB from rfl]
  simp [ah0]
theorem ah2 : hitB sT [⟨false, 35, [120]⟩, ⟨true, 0, [98, 101]⟩] t2N = true := by
  unfold hitB
  rw [show bkNm sT t2N.bk = nB from rfl]
  simp [ah01, ah02]
theorem ah9 : hitsL sT [⟨false, 35, [120]⟩, ⟨true, 0, [98, 101]⟩] = [⟨2, nNot⟩] := by
  unfold hitsL
  rw [show sT.ts = [t1N, t2N] from rfl, List.filter_cons, ah1, List.filter_cons, ah2]
  rfl
theorem ah3 : mayQ [97, 32, 35, 98, 32, 47, 99, 32, 33, 100] = true := by rfl
theorem ah41 : kinB t1N 1 t1N = false := by decide +kernel
theorem ah42 : kinB t1N 1 t2N = true := by decide +kernel
theorem ah43 : comN t1N.tg t2N.tg = 1 := by decide +kernel
theorem ah4 : kinsL sT t1N 1 = [⟨2, nNot, 1⟩] := by
  unfold kinsL
  rw [show sT.ts = [t1N, t2N] from rfl, List.filter_cons, ah41, List.filter_cons, ah42]
  show [kinIt t1N t2N] = _
  unfold kinIt
  rw [ah43]
  rfl
theorem ah6 : noteAt sT 1 = ((0 : Nat) : Int) := by rfl
theorem ah8 : tagsA sT = [nX, nX, nY] := by rfl
theorem sameTextsN (L : List ByteArray) (A B : Option Addr) (n c d : Nat) (w : World) (hn : L.length = n) (n1 : n ≤ 1000000) (h1 : Sl w w.heap.size A (L.map strV)) (h2 : Sl w w.heap.size B (L.map strV)) : Calls Tryz.prog 21 #[.slice A n c, .slice B n d] w fun e' w' => e' = .returned (.bool true) ∧ Below w.heap.size w w' := by
  subst hn
  exact sameTexts_yes L A B c d w n1 h1 h2
theorem aw_find1 (v : Value) (w : World) (hS : ShR w w.heap.size v sT) (hT : Tabs w) : Calls Tryz.prog 12 #[v, .string ⟨#[35, 120, 32, 33, 98, 101]⟩] w fun e' w' => ∃ (A : Option Addr) (c : Nat), e' = .returned (.tuple #[.slice A 1 c, .int .i64 0]) ∧ SlE 2 w' w'.heap.size A (([⟨2, nNot⟩] : List It).map itC) ∧ Below w.heap.size w w' := by
  refine (find_any sT v [35, 120, 32, 33, 98, 101] _ w hS hT mayT ar2 (by decide)).mono ?_
  rintro e' w' ⟨A, c, its, rfl, h1, h2, h3, h4⟩
  rw [ah9] at h1
  obtain rfl := List.perm_singleton.1 h1
  exact ⟨A, c, rfl, sle_of_own h3 (fun x hx => by obtain ⟨y, _, rfl⟩ := List.mem_map.1 hx; rfl) (by decide), h4⟩
theorem aw_find2 (v : Value) (w : World) (hS : ShR w w.heap.size v sT) (hT : Tabs w) : Calls Tryz.prog 12 #[v, .string ⟨#[97, 32, 32, 98]⟩] w fun e' w' => e' = .returned (.tuple #[.slice none 0 0, .int .i64 5]) ∧ Below w.heap.size w w' :=
  find_form sT v [97, 32, 32, 98] w hS hT mayT ar1 (by decide)
theorem aw_kin (v : Value) (w : World) (hS : ShR w w.heap.size v sT) (hT : Tabs w) : Calls Tryz.prog 14 #[v, .int .i64 1] w fun e' w' => ∃ (A : Option Addr) (c : Nat), e' = .returned (.tuple #[.slice A 1 c, .int .i64 0]) ∧ SlE 2 w' w'.heap.size A (([⟨2, nNot⟩] : List It).map itC) ∧ Below w.heap.size w w' := by
  refine (kin_any sT v 1 w hS hT mayT 0 t1N ah6 rfl).mono ?_
  rintro e' w' ⟨A, c, its, rfl, h1, h2, h3, h4⟩
  rw [ah4] at h1
  obtain rfl := List.perm_singleton.1 h1
  exact ⟨A, c, rfl, sle_of_own h3 (fun x hx => by obtain ⟨y, _, rfl⟩ := List.mem_map.1 hx; rfl) (by decide), h4⟩
theorem aw_words (w : World) : Calls Tryz.prog 17 #[.string ⟨#[116, 111, 32, 98, 101, 32, 111, 114, 32, 110, 111, 116, 32, 116, 111, 32, 98, 101]⟩] w fun e' w' => ∃ (A : Option Addr) (c : Nat), e' = .returned (.slice A 4 c) ∧ Sl w' w'.heap.size A ([(⟨#[98, 101]⟩ : ByteArray), (⟨#[110, 111, 116]⟩ : ByteArray), (⟨#[111, 114]⟩ : ByteArray), (⟨#[116, 111]⟩ : ByteArray)].map strV) ∧ Below w.heap.size w w' := by
  refine (words_any [116, 111, 32, 98, 101, 32, 111, 114, 32, 110, 111, 116, 32, 116, 111, 32, 98, 101] (by decide) w).mono ?_
  rintro e' w' ⟨v, rfl, h3, h4⟩
  rw [aw2] at h3
  obtain ⟨A, c, rfl, -, -⟩ := own_shape h3
  exact ⟨A, c, rfl, Sl.of_own h3, h4⟩
theorem aw_tags (v : Value) (w : World) (hS : ShR w w.heap.size v sT) (hT : Tabs w) : Calls Tryz.prog 16 #[v] w fun e' w' => ∃ (A : Option Addr) (c : Nat), e' = .returned (.slice A 2 c) ∧ SlE 2 w' w'.heap.size A (([⟨2, nX⟩, ⟨1, nY⟩] : List It).map itC) ∧ Below w.heap.size w w' := by
  refine (tags_any sT v w hS hT mayT).mono ?_
  rintro e' w' ⟨A, c, ks, rfl, h1, h2, h3, h4⟩
  have hk : ks = [[120], [121]] := by
    refine rise_uniq h1 (by decide) (fun x => ?_)
    rw [h2, ah8]
    simp only [List.mem_cons, List.not_mem_nil, or_false]
    constructor
    · rintro (h | h | h)
      · exact Or.inl (by have := congrArg (fun z : ByteArray => z.data.toList) h; simpa [bOf, nX] using this)
      · exact Or.inl (by have := congrArg (fun z : ByteArray => z.data.toList) h; simpa [bOf, nX] using this)
      · exact Or.inr (by have := congrArg (fun z : ByteArray => z.data.toList) h; simpa [bOf, nY] using this)
    · rintro (rfl | rfl)
      · exact Or.inl rfl
      · exact Or.inr (Or.inr rfl)
  subst hk
  exact ⟨A, c, rfl, sle_of_own h3 (fun x hx => by obtain ⟨y, _, rfl⟩ := List.mem_map.1 hx; rfl) (by decide), h4⟩
theorem aw_may (w : World) : Calls Tryz.prog 23 #[.string ⟨#[97, 32, 35, 98, 32, 47, 99, 32, 33, 100]⟩] w fun e' w' => e' = .returned (.bool true) ∧ Below w.heap.size w w' := mayq_any [97, 32, 35, 98, 32, 47, 99, 32, 33, 100] w (by decide) true ah3
theorem awakeK_any (w : World) (hT : Tabs w) : Calls Tryz.prog 10 #[] w fun e' w' => e' = .returned (.bool true) ∧ Below w.heap.size w w' := by
  have HB := Below.refl w.heap.size w
  have HT := hT
  go_enter Tryz.func10, Tryz.ntmps10
  go_wp2_with (first
    | (go_at_call 12; ((with_reducible refine (aw_find1 _ _ hS HT).mono ?_); rintro e' w2 ⟨A2, c2, rfl, hs, bx⟩; have HB := btr HB HB.size bx; have HT := HT.next bx; (try replace hk := SlE.next hk bx); (try replace hg := SlE.next hg bx); (try replace hw := (Sl.below hw bx).mono_ (Below.size bx)); (try replace hl := SlE.next hl bx); (try replace hlw := (Sl.below hlw bx).mono_ (Below.size bx)); clear bx hS))
    | (go_at_call 12; ((with_reducible refine (aw_find2 _ _ hS HT).mono ?_); rintro e' w3 ⟨rfl, bx⟩; have HB := btr HB HB.size bx; have HT := HT.next bx; (try replace hs := SlE.next hs bx); (try replace hk := SlE.next hk bx); (try replace hg := SlE.next hg bx); (try replace hw := (Sl.below hw bx).mono_ (Below.size bx)); (try replace hl := SlE.next hl bx); (try replace hlw := (Sl.below hlw bx).mono_ (Below.size bx)); clear bx hS))
    | (go_at_call 14; ((with_reducible refine (aw_kin _ _ hS HT).mono ?_); rintro e' w4 ⟨A4, c4, rfl, hk, bx⟩; have HB := btr HB HB.size bx; have HT := HT.next bx; (try replace hs := SlE.next hs bx); (try replace hg := SlE.next hg bx); (try replace hw := (Sl.below hw bx).mono_ (Below.size bx)); (try replace hl := SlE.next hl bx); (try replace hlw := (Sl.below hlw bx).mono_ (Below.size bx)); clear bx hS))
    | (go_at_call 17; ((with_reducible refine (aw_words _).mono ?_); rintro e' w5 ⟨A5, c5, rfl, hw, bx⟩; have HB := btr HB HB.size bx; have HT := HT.next bx; (try replace hs := SlE.next hs bx); (try replace hk := SlE.next hk bx); (try replace hg := SlE.next hg bx); (try replace hl := SlE.next hl bx); (try replace hlw := (Sl.below hlw bx).mono_ (Below.size bx)); have hlw := lit_sl w5 #[.string ⟨#[98, 101]⟩, .string ⟨#[110, 111, 116]⟩, .string ⟨#[111, 114]⟩, .string ⟨#[116, 111]⟩] 9 4 ([(⟨#[98, 101]⟩ : ByteArray), (⟨#[110, 111, 116]⟩ : ByteArray), (⟨#[111, 114]⟩ : ByteArray), (⟨#[116, 111]⟩ : ByteArray)].map strV) rfl rfl (by decide); have al := (Below.refl _ w5).alloc (Nat.le_refl _) (.cells #[.string ⟨#[98, 101]⟩, .string ⟨#[110, 111, 116]⟩, .string ⟨#[111, 114]⟩, .string ⟨#[116, 111]⟩] 9); have HB := btr HB HB.size al; have HT := HT.next al; (try replace hs := SlE.next hs al); (try replace hk := SlE.next hk al); (try replace hg := SlE.next hg al); (try replace hw := (Sl.below hw al).mono_ (Below.size al)); (try replace hl := SlE.next hl al); clear al; clear bx))
    | (go_at_call 21; ((with_reducible refine (sameTextsN ([(⟨#[98, 101]⟩ : ByteArray), (⟨#[110, 111, 116]⟩ : ByteArray), (⟨#[111, 114]⟩ : ByteArray), (⟨#[116, 111]⟩ : ByteArray)]) _ _ 4 _ _ _ rfl (by decide) hw hlw).mono ?_); rintro e' w6 ⟨rfl, bx⟩; have HB := btr HB HB.size bx; have HT := HT.next bx; (try replace hs := SlE.next hs bx); (try replace hk := SlE.next hk bx); (try replace hg := SlE.next hg bx); (try replace hw := (Sl.below hw bx).mono_ (Below.size bx)); (try replace hl := SlE.next hl bx); (try replace hlw := (Sl.below hlw bx).mono_ (Below.size bx)); have hl := lit_slE w6 #[.int .i64 2, .string ⟨#[110, 111, 116]⟩] 50 2 1 (([⟨2, nNot⟩] : List It).map itC) rfl (fun x hx => by obtain ⟨y, _, rfl⟩ := List.mem_map.1 hx; rfl) rfl (by decide) (by decide); have al := (Below.refl _ w6).alloc (Nat.le_refl _) (.cells #[.int .i64 2, .string ⟨#[110, 111, 116]⟩] 50); have HB := btr HB HB.size al; have HT := HT.next al; (try replace hs := SlE.next hs al); (try replace hk := SlE.next hk al); (try replace hg := SlE.next hg al); (try replace hw := (Sl.below hw al).mono_ (Below.size al)); (try replace hlw := (Sl.below hlw al).mono_ (Below.size al)); clear al; clear bx hw hlw))
    | (go_at_call 18; ((with_reducible refine (sameItems_yes ([⟨2, nNot⟩] : List It) _ _ 1 _ _ _ rfl (by decide) hs hl).mono ?_); rintro e' w7 ⟨rfl, bx⟩; have HB := btr HB HB.size bx; have HT := HT.next bx; (try replace hs := SlE.next hs bx); (try replace hk := SlE.next hk bx); (try replace hg := SlE.next hg bx); (try replace hw := (Sl.below hw bx).mono_ (Below.size bx)); (try replace hl := SlE.next hl bx); (try replace hlw := (Sl.below hlw bx).mono_ (Below.size bx)); clear bx hs hl))
    | (go_at_call 16; ((with_reducible refine (aw_tags _ _ hS HT).mono ?_); rintro e' w8 ⟨A8, c8, rfl, hg, bx⟩; have HB := btr HB HB.size bx; have HT := HT.next bx; (try replace hs := SlE.next hs bx); (try replace hk := SlE.next hk bx); (try replace hw := (Sl.below hw bx).mono_ (Below.size bx)); (try replace hl := SlE.next hl bx); (try replace hlw := (Sl.below hlw bx).mono_ (Below.size bx)); have hl := lit_slE w8 #[.int .i64 2, .string ⟨#[120]⟩, .int .i64 1, .string ⟨#[121]⟩] 50 2 2 (([⟨2, nX⟩, ⟨1, nY⟩] : List It).map itC) rfl (fun x hx => by obtain ⟨y, _, rfl⟩ := List.mem_map.1 hx; rfl) rfl (by decide) (by decide); have al := (Below.refl _ w8).alloc (Nat.le_refl _) (.cells #[.int .i64 2, .string ⟨#[120]⟩, .int .i64 1, .string ⟨#[121]⟩] 50); have HB := btr HB HB.size al; have HT := HT.next al; (try replace hs := SlE.next hs al); (try replace hk := SlE.next hk al); (try replace hg := SlE.next hg al); (try replace hw := (Sl.below hw al).mono_ (Below.size al)); (try replace hlw := (Sl.below hlw al).mono_ (Below.size al)); clear al; clear bx hS))
    | (go_at_call 18; ((with_reducible refine (sameItems_yes ([⟨2, nX⟩, ⟨1, nY⟩] : List It) _ _ 2 _ _ _ rfl (by decide) hg hl).mono ?_); rintro e' w9 ⟨rfl, bx⟩; have HB := btr HB HB.size bx; have HT := HT.next bx; (try replace hs := SlE.next hs bx); (try replace hk := SlE.next hk bx); (try replace hg := SlE.next hg bx); (try replace hw := (Sl.below hw bx).mono_ (Below.size bx)); (try replace hl := SlE.next hl bx); (try replace hlw := (Sl.below hlw bx).mono_ (Below.size bx)); clear hl; have hl := lit_slE w9 #[.int .i64 2, .string ⟨#[110, 111, 116]⟩] 50 2 1 (([⟨2, nNot⟩] : List It).map itC) rfl (fun x hx => by obtain ⟨y, _, rfl⟩ := List.mem_map.1 hx; rfl) rfl (by decide) (by decide); have al := (Below.refl _ w9).alloc (Nat.le_refl _) (.cells #[.int .i64 2, .string ⟨#[110, 111, 116]⟩] 50); have HB := btr HB HB.size al; have HT := HT.next al; (try replace hs := SlE.next hs al); (try replace hk := SlE.next hk al); (try replace hg := SlE.next hg al); (try replace hw := (Sl.below hw al).mono_ (Below.size al)); (try replace hlw := (Sl.below hlw al).mono_ (Below.size al)); clear al; clear bx hg))
    | (go_at_call 18; ((with_reducible refine (sameItems_yes ([⟨2, nNot⟩] : List It) _ _ 1 _ _ _ rfl (by decide) hk hl).mono ?_); rintro e' w10 ⟨rfl, bx⟩; have HB := btr HB HB.size bx; have HT := HT.next bx; (try replace hs := SlE.next hs bx); (try replace hk := SlE.next hk bx); (try replace hg := SlE.next hg bx); (try replace hw := (Sl.below hw bx).mono_ (Below.size bx)); (try replace hl := SlE.next hl bx); (try replace hlw := (Sl.below hlw bx).mono_ (Below.size bx)); clear bx hk hl))
    | (go_at_call 23; ((with_reducible refine (aw_may _).mono ?_); rintro e' w11 ⟨rfl, bx⟩; have HB := btr HB HB.size bx; have HT := HT.next bx; (try replace hs := SlE.next hs bx); (try replace hk := SlE.next hk bx); (try replace hg := SlE.next hg bx); (try replace hw := (Sl.below hw bx).mono_ (Below.size bx)); (try replace hl := SlE.next hl bx); (try replace hlw := (Sl.below hlw bx).mono_ (Below.size bx)); clear bx))
    | (go_at_call 34; ((with_reducible refine (two_any _).mono ?_); rintro e' w1 ⟨v1, rfl, hS, bx⟩; have HB := btr HB HB.size bx; have HT := HT.next bx; (try replace hs := SlE.next hs bx); (try replace hk := SlE.next hk bx); (try replace hg := SlE.next hg bx); (try replace hw := (Sl.below hw bx).mono_ (Below.size bx)); (try replace hl := SlE.next hl bx); (try replace hlw := (Sl.below hlw bx).mono_ (Below.size bx)); clear bx)))
  go_ret
  exact ⟨rfl, HB⟩
end Go.Proofs.YteokeghenjobaaaGreatDoor
namespace Go.Proofs.YteokeghenjobaaaGreatDoor
open Go.ChangeShapes Go.WideShapes Go.ChangeAt Go.RowKit
attribute [local go_sem ↓] Go.wp_at_zero Go.wp_at_succ
attribute [local go_sem] Oper.semAt_some
theorem app_L (a b : ByteArray) : (a ++ b).data.toList = a.data.toList ++ b.data.toList := by
  rw [ByteArray.data_append, Array.toList_append]
def wB (S : ByteArray) : List ByteArray := (wordsL S.data.toList).map bOf
theorem bOf_d (S : ByteArray) : bOf S.data.toList = S := data_inj (bOf_l _)
theorem mem_wB (x S : ByteArray) : x ∈ wB S ↔ x.data.toList ∈ wordsL S.data.toList := by
  unfold wB
  rw [List.mem_map]
  constructor
  · rintro ⟨y, hy, rfl⟩
    rw [bOf_l]
    exact hy
  · intro h
    exact ⟨_, h, bOf_d x⟩
theorem wB_len (S : ByteArray) : (wB S).length ≤ S.size + 1 := by
  unfold wB
  rw [List.length_map]
  unfold wordsL
  have h1 := Lib.compact_length_le ((rawL S.data.toList).mergeSort fun x y => decide (x ≤ y))
  rw [List.length_mergeSort] at h1
  have h2 := List.length_filter_le (fun x : List UInt8 => !x.isEmpty) (splitL S.data.toList)
  have h3 := splitL_len S.data.toList
  rw [size_L]
  unfold rawL at h1 ⊢
  omega
theorem wordsB_any (S : ByteArray) (hl : S.size ≤ 100000) (w : World) : Calls Tryz.prog 17 #[.string S] w fun e' w' => ∃ (A : Option Addr) (c : Nat), e' = .returned (.slice A (wB S).length c) ∧ Sl w' w'.heap.size A ((wB S).map strV) ∧ Below w.heap.size w w' := by
  have h := words_any S.data.toList (by rw [← size_L]; exact hl) w
  rw [bOf_d] at h
  refine h.mono ?_
  rintro e' w' ⟨v, rfl, h3, h4⟩
  obtain ⟨A, c, rfl, -, -⟩ := own_shape h3
  refine ⟨A, c, by unfold wB; rw [List.length_map], ?_, h4⟩
  have h5 := Sl.of_own h3
  unfold wB
  rw [List.map_map]
  exact h5
theorem wordsN_any (S : ByteArray) (hl : S.size ≤ 100000) (n : Nat) (hn : (wB S).length = n) (w : World) : Calls Tryz.prog 17 #[.string S] w fun e' w' => ∃ (A : Option Addr) (c : Nat), e' = .returned (.slice A n c) ∧ Sl w' w'.heap.size A ((wB S).map strV) ∧ Below w.heap.size w w' := by
  subst hn
  exact wordsB_any S hl w
theorem amongN (l : List ByteArray) (A : Option Addr) (n cp : Nat) (x0 : ByteArray) (w : World) (hn : l.length = n) (hS : Sl w w.heap.size A (l.map strV)) (hl : l.length ≤ 1000000) (T : Bool) (hT : amgB l x0 = T) : Calls Tryz.prog 32 #[.slice A n cp, .string x0] w fun e' w' => e' = .returned (.bool T) ∧ w' = w := by
  subst hn
  exact among_any l A cp x0 w hS hl T hT
theorem amg_true {l : List ByteArray} {x : ByteArray} (h : x ∈ l) : amgB l x = true := (amgB_iff l x).2 h
theorem d32 : (⟨#[32]⟩ : ByteArray).data.toList = [32] := rfl
theorem d3232 : (⟨#[32, 32]⟩ : ByteArray).data.toList = [32, 32] := rfl
theorem join_L (a b : ByteArray) : (a ++ ⟨#[32]⟩ ++ b).data.toList = a.data.toList ++ 32 :: b.data.toList := by
  rw [app_L, app_L, d32]
  simp
theorem join_in {a b x : ByteArray} (h : x ∈ wB (a ++ ⟨#[32]⟩ ++ b)) : (x ∈ wB a ∨ x ∈ wB b) ∧ wB x = [x] := by
  rw [mem_wB, join_L] at h
  refine ⟨?_, ?_⟩
  · rw [mem_wB, mem_wB]
    exact (words_both _ _ _).1 h
  · unfold wB
    rw [words_one h]
    simp [bOf_d]
theorem join_of {a b x : ByteArray} (h : x ∈ wB a ∨ x ∈ wB b) : x ∈ wB (a ++ ⟨#[32]⟩ ++ b) := by
  rw [mem_wB, join_L]
  rw [mem_wB, mem_wB] at h
  exact (words_both _ _ _).2 h
theorem join_ends (a : ByteArray) : wB (⟨#[32]⟩ ++ a ++ ⟨#[32, 32]⟩) = wB a := by
  unfold wB
  rw [app_L, app_L, d32, d3232]
  rw [show [32] ++ a.data.toList ++ [32, 32] = 32 :: (a.data.toList ++ [32, 32]) by simp, words_ends]
theorem wB_less (S : ByteArray) (k : Nat) (x y : ByteArray) (h1 : (wB S)[k]? = some x) (h2 : (wB S)[k + 1]? = some y) : Op.bytesLess x.toList y.toList = true := by
  unfold wB at h1 h2
  rw [List.getElem?_map] at h1 h2
  cases e1 : (wordsL S.data.toList)[k]? with
  | none => rw [e1] at h1; cases h1
  | some u =>
    cases e2 : (wordsL S.data.toList)[k + 1]? with
    | none => rw [e2] at h2; cases h2
    | some v =>
      rw [e1] at h1
      rw [e2] at h2
      cases h1
      cases h2
      obtain ⟨l1, g1⟩ := List.getElem?_eq_some_iff.1 e1
      obtain ⟨l2, g2⟩ := List.getElem?_eq_some_iff.1 e2
      have := List.pairwise_iff_getElem.1 (words_rise S.data.toList) k (k + 1) l1 l2 (by omega)
      rw [g1, g2] at this
      rw [ByteArray.toList_eq, ByteArray.toList_eq, less_lt]
      show decide ((bOf u).data.toList < (bOf v).data.toList) = true
      rw [bOf_l, bOf_l]
      exact decide_eq_true this
theorem less_not {x y : ByteArray} (h : Op.bytesLess x.toList y.toList = true) : Op.bytesLess y.toList x.toList = false ∧ (y.toList == x.toList) = false := by
  rw [less_lt] at h
  have h := of_decide_eq_true h
  refine ⟨by rw [less_lt]; exact decide_eq_false (List.lt_asymm h), ?_⟩
  cases hq : (y.toList == x.toList)
  · rfl
  · rw [beq_iff_eq] at hq
    rw [hq] at h
    exact absurd h (lt_irr _)
theorem zsize {S z : ByteArray} (h : z ∈ wB S) (hl : S.size ≤ 100000) : z.size ≤ 100000 := by
  have h1 := ((words_mem _ _).1 ((mem_wB _ _).1 h)).1
  have gen : ∀ (l x : List UInt8), x ∈ splitL l → x.length ≤ l.length := by
    intro l
    induction l with
    | nil => intro x hx; simp [splitL] at hx; subst hx; exact Nat.le_refl _
    | cons c l ih =>
      intro x hx
      by_cases hc : c = 32
      · subst hc
        have h2 : x ∈ [] :: splitL l := hx
        rcases List.mem_cons.1 h2 with rfl | h2
        · exact Nat.zero_le _
        · have := ih x h2
          rw [List.length_cons]
          omega
      · cases hs : splitL l with
        | nil => exact absurd hs (splitL_ne l)
        | cons y r =>
          rw [splitL_cons_ne hc l hs] at hx
          rw [hs] at ih
          rcases List.mem_cons.1 hx with rfl | h2
          · have := ih y (by simp)
            simp
            omega
          · have := ih x (by simp [h2])
            rw [List.length_cons]
            omega
  have := gen _ _ h1
  rw [size_L] at hl ⊢
  omega
theorem joins_walk (a b : ByteArray) (w : World) (hT : Tabs w) :
    Calls Tryz.prog 8 #[.string a, .string b] w fun e' w' => e' = .returned (.bool true) ∧ Below w.heap.size w w' := by
  have HB := Below.refl w.heap.size w
  by_cases h1 : (200 : Int) < (a.size : Int)
  · go_enter Tryz.func8, Tryz.ntmps8
    go_wp2_with (go_at_call 10; ((with_reducible refine (awakeK_any _ (hT.next HB)).mono ?_); rintro e' w9 ⟨rfl, b9⟩; have HB := btr HB HB.size b9; clear b9))
    go_ret
    exact ⟨rfl, HB⟩
  by_cases h2 : (200 : Int) < (b.size : Int)
  · go_enter Tryz.func8, Tryz.ntmps8
    go_wp2_with (go_at_call 10; ((with_reducible refine (awakeK_any _ (hT.next HB)).mono ?_); rintro e' w9 ⟨rfl, b9⟩; have HB := btr HB HB.size b9; clear b9))
    go_ret
    exact ⟨rfl, HB⟩
  have HA : Hid (a.size ≤ 100000) := Lib.hid (by omega)
  have HBB : Hid (b.size ≤ 100000) := Lib.hid (by omega)
  have s32 : (⟨#[32]⟩ : ByteArray).size = 1 := rfl
  have s3232 : (⟨#[32, 32]⟩ : ByteArray).size = 2 := rfl
  have HAB : Hid ((a ++ ⟨#[32]⟩ ++ b).size ≤ 100000) := Lib.hid (by rw [ByteArray.size_append, ByteArray.size_append, s32]; omega)
  have HAE : Hid ((⟨#[32]⟩ ++ a ++ ⟨#[32, 32]⟩ : ByteArray).size ≤ 100000) := Lib.hid (by rw [ByteArray.size_append, ByteArray.size_append, s32, s3232]; omega)
  obtain ⟨nx, hnx⟩ : ∃ n, (wB a).length = n := ⟨_, rfl⟩
  obtain ⟨ny, hny⟩ : ∃ n, (wB b).length = n := ⟨_, rfl⟩
  obtain ⟨nz, hnz⟩ : ∃ n, (wB (a ++ ⟨#[32]⟩ ++ b)).length = n := ⟨_, rfl⟩
  have lx : nx ≤ 1000 := by have := wB_len a; omega
  have ly : ny ≤ 1000 := by have := wB_len b; omega
  have lz : nz ≤ 1000 := by have := wB_len (a ++ ⟨#[32]⟩ ++ b); rw [ByteArray.size_append, ByteArray.size_append, s32] at this; omega
  have HNX := Lib.hid hnx
  have HNY := Lib.hid hny
  have HNZ := Lib.hid hnz
  have HWE : Hid (∀ w_ : World, Calls Tryz.prog 17 #[.string (⟨#[32]⟩ ++ a ++ ⟨#[32, 32]⟩)] w_ fun e' w' => ∃ (A : Option Addr) (c : Nat), e' = .returned (.slice A nx c) ∧ Sl w' w'.heap.size A ((wB a).map strV) ∧ Below w_.heap.size w_ w') := Lib.hid (fun w_ => by
    have h := wordsN_any (⟨#[32]⟩ ++ a ++ ⟨#[32, 32]⟩) HAE.out nx (by rw [join_ends]; exact hnx) w_
    rw [join_ends] at h
    exact h)
  clear hnx hny hnz s32 s3232 HAE
  go_enter Tryz.func8, Tryz.ntmps8
  go_upto_region 4 with (first
    | (go_at_call 17; ((with_reducible refine (wordsN_any a HA.out nx HNX.out _).mono ?_); rintro e' w1 ⟨Ax, cx, rfl, hx, b1⟩; have HB := btr HB HB.size b1; clear b1))
    | (go_at_call 17; ((with_reducible refine (wordsN_any b HBB.out ny HNY.out _).mono ?_); rintro e' w2 ⟨Ay, cy, rfl, hy, b2⟩; have HB := btr HB HB.size b2; (try replace hx := (Sl.below hx b2).mono_ (Below.size b2)); clear b2))
    | (go_at_call 17; ((with_reducible refine (wordsN_any (a ++ ⟨#[32]⟩ ++ b) HAB.out nz HNZ.out _).mono ?_); rintro e' w3 ⟨Az, cz, rfl, hz, b3⟩; have HB := btr HB HB.size b3; (try replace hx := (Sl.below hx b3).mono_ (Below.size b3)); (try replace hy := (Sl.below hy b3).mono_ (Below.size b3)); clear b3)))
  obtain ⟨ZL, hZL⟩ : ∃ l, wB (a ++ ⟨#[32]⟩ ++ b) = l := ⟨_, rfl⟩
  rw [hZL] at hz HNZ
  have HZL := Lib.hid hZL
  clear hZL
  have hB0 := HB
  clear HB h1 h2
  go_wp2_with fail
  go_loopw [8] (fun i wr => ∃ k : Nat, k ≤ nz ∧ i = .int .i64 k ∧ Below w3.heap.size w3 wr) (fun i _ => nz - (intOf i).toNat)
  case atStart => exact ⟨0, by omega, rfl, Below.refl _ _⟩
  case round =>
    obtain ⟨k, hk, rfl, HBr⟩ := hrel
    by_cases hlt : k < nz
    · have hlx : k < ZL.length := by have := HNZ.out; omega
      have i0 : (0 : Int) ≤ (k : Int) := by omega
      have i1 : (k : Int) < (nz : Int) := by omega
      obtain ⟨z, hzx⟩ : ∃ z, ZL[k]? = some z := ⟨_, List.getElem?_eq_getElem hlx⟩
      obtain ⟨bz, oz, rfl, l1, q1⟩ := hz.at_ (by rw [List.length_map]; omega)
      have cz0 : wr.drew.cell? ⟨bz, oz + k, none⟩ = some (.string z) := (HBr.cell (p := ⟨bz, _, none⟩) l1).trans (q1 k _ (by rw [List.getElem?_map, hzx]; rfl))
      have hzm : z ∈ wB (a ++ ⟨#[32]⟩ ++ b) := by rw [HZL.out]; exact List.mem_of_getElem? hzx
      have hzin := join_in hzm
      obtain ⟨p, hp⟩ : ∃ p, amgB (wB a) z = p := ⟨_, rfl⟩
      obtain ⟨q, hq⟩ : ∃ q, amgB (wB b) z = q := ⟨_, rfl⟩
      have H1 : Hid (∀ w_, Below wr.heap.size wr w_ → Calls Tryz.prog 32 #[.slice Ax nx cx, .string z] w_ fun e' w' => e' = .returned (.bool p) ∧ w' = w_) := Lib.hid (fun w_ h => amongN (wB a) Ax nx cx z w_ HNX.out ((hx.below (btr HBr HBr.size h)).mono_ (btr HBr HBr.size h).size) (by rw [HNX.out]; omega) p hp)
      have H2 : Hid (∀ w_, Below wr.heap.size wr w_ → Calls Tryz.prog 32 #[.slice Ay ny cy, .string z] w_ fun e' w' => e' = .returned (.bool q) ∧ w' = w_) := Lib.hid (fun w_ h => amongN (wB b) Ay ny cy z w_ HNY.out ((hy.below (btr HBr HBr.size h)).mono_ (btr HBr HBr.size h).size) (by rw [HNY.out]; omega) q hq)
      have hpq : (p || q) = true := by
        rcases hzin.1 with h | h
        · rw [← hp, amg_true h]; rfl
        · rw [← hq, amg_true h, Bool.or_true]
      have hwz := hzin.2
      have hzs : z.size ≤ 100000 := by
        exact zsize hzm HAB.out
      have HW : Hid (∀ w_ : World, Calls Tryz.prog 17 #[.string z] w_ fun e' w' => ∃ (A : Option Addr) (c : Nat), e' = .returned (.slice A 1 c) ∧ Sl w' w'.heap.size A ([z].map strV) ∧ Below w_.heap.size w_ w') := Lib.hid (fun w_ => by
        have h := wordsN_any z hzs 1 (by rw [hwz]; rfl) w_
        rw [hwz] at h
        exact h)
      have hprev : ∀ j, k = j + 1 → ∃ zp, ZL[j]? = some zp ∧ Op.bytesLess zp.toList z.toList = true := fun j hj => by
        subst hj
        exact ⟨_, List.getElem?_eq_getElem (by omega), wB_less (a ++ ⟨#[32]⟩ ++ b) j _ _ (by rw [HZL.out]; exact List.getElem?_eq_getElem (by omega)) (by rw [HZL.out]; exact hzx)⟩
      have HPV : Hid (∀ j, k = j + 1 → ∃ zp, (Op.bytesLess z.toList zp.toList = false ∧ (z.toList == zp.toList) = false) ∧ ∀ w_, Below w3.heap.size w3 w_ → w_.cell? ⟨bz, oz + j, none⟩ = some (.string zp)) := Lib.hid (fun j hj => by
        obtain ⟨zp, e1, e2⟩ := hprev j hj
        exact ⟨zp, less_not e2, fun w_ h => (h.cell (p := ⟨bz, _, none⟩) l1).trans (q1 j _ (by rw [List.getElem?_map, e1]; rfl))⟩)
      have QD : (wr.drew.cell? ⟨bz, oz + k, none⟩ = some (.string z) ∧ Below wr.heap.size wr wr.drew) := ⟨cz0, drew_below (Below.refl _ wr)⟩
      clear hp hq hzx q1 hzin hzm hwz hprev hlx hzs
      go_upto_region 7 with fail
      go_cut [9, 10] (fun v1 v2 wx => v1 = .bool p ∧ v2 = .bool q ∧ wx.cell? ⟨bz, oz + k, none⟩ = some (.string z) ∧ Below wr.heap.size wr wx)
      case first =>
        refine wp_region_noPanic ?_
        refine wp_region_held_drew (S := (fun w_ => w_.cell? ⟨bz, oz + k, none⟩ = some (.string z) ∧ Below wr.heap.size wr w_)) (by kernel_rfl) ?_ (fun hHeld => ?_)
        · (first | with_reducible exact QD | assumption)
        refine tk 0 ⟨some 38, .move (.tmp 5), 38, "more.go:37", #[], none⟩ ?_; try simp only [Act.put, pz1, pz2, pz3]
        refine tk 1 ⟨some 39, .move (.tmp 7), 38, "more.go:37", #[], none⟩ ?_; try simp only [Act.put, pz1, pz2, pz3]
        refine tk 2 ⟨some 40, .move (.tmp 8), 3, "more.go:37", #[], none⟩ ?_; try simp only [Act.put, pz1, pz2, pz3]
        refine tk 3 ⟨some 41, .indexAddr 38 (.tmp 39) (.tmp 40), 0, "more.go:37", #[⟨1, .data⟩, ⟨2, .data⟩], none⟩ ?_; try simp only [Act.put, pz1, pz2, pz3]
        refine tk 4 ⟨some 42, .load 9 (.tmp 41), 9, "more.go:37", #[⟨3, .data⟩], none⟩ ?_; try simp only [Act.put, pz1, pz2, pz3]
        refine tk 6 ⟨some 44, .move (.tmp 6), 38, "more.go:37", #[], none⟩ ?_; try simp only [Act.put, pz1, pz2, pz3]
        refine tk 7 ⟨some 45, .move (.tmp 7), 38, "more.go:37", #[], none⟩ ?_; try simp only [Act.put, pz1, pz2, pz3]
        refine tk 8 ⟨some 46, .move (.tmp 8), 3, "more.go:37", #[], none⟩ ?_; try simp only [Act.put, pz1, pz2, pz3]
        refine tk 9 ⟨some 47, .indexAddr 38 (.tmp 45) (.tmp 46), 0, "more.go:37", #[⟨7, .data⟩, ⟨8, .data⟩], none⟩ ?_; try simp only [Act.put, pz1, pz2, pz3]
        refine tk 10 ⟨some 48, .load 9 (.tmp 47), 9, "more.go:37", #[⟨9, .data⟩], none⟩ ?_; try simp only [Act.put, pz1, pz2, pz3]
        refine wpAnyH_ready (rs := [5]) (by kernel_rfl) (by simp) ?_
        refine AllReadyH.cons (o := ⟨some 43, .call { callee := .value (.func 32), args := #[.tmp 38, .tmp 42], argTypes := #[38, 9] }, 4, "more.go:37", #[⟨0, .data⟩, ⟨4, .data⟩], none⟩) rfl (fun K hK => ?_) AllReadyH.nil
        go_simp
        (first
              | (go_at_call 32; ((with_reducible refine (H1.out _ hHeld.2).mono ?_); rintro e' w5 ⟨rfl, rfl⟩; skip))
              | (go_at_call 32; ((with_reducible refine (H2.out _ hHeld.2).mono ?_); rintro e' w5 ⟨rfl, rfl⟩; skip)))
        go_wp2_with fail
        refine hK.out _ _ ?_ (fun hNew => ?_)
        · (first | with_reducible exact QD | assumption)
        clear hK K hHeld
        have hHeld := hNew
        clear hNew
        try simp only [Act.put, pz1, pz2, pz3]
        refine wpAnyH_ready (rs := [11]) (by kernel_rfl) (by simp) ?_
        refine AllReadyH.cons (o := ⟨some 49, .call { callee := .value (.func 32), args := #[.tmp 44, .tmp 48], argTypes := #[38, 9] }, 4, "more.go:37", #[⟨6, .data⟩, ⟨10, .data⟩, ⟨5, .chain⟩], none⟩) rfl (fun K hK => ?_) AllReadyH.nil
        go_simp
        (first
              | (go_at_call 32; ((with_reducible refine (H1.out _ hHeld.2).mono ?_); rintro e' w5 ⟨rfl, rfl⟩; skip))
              | (go_at_call 32; ((with_reducible refine (H2.out _ hHeld.2).mono ?_); rintro e' w5 ⟨rfl, rfl⟩; skip)))
        go_wp2_with fail
        refine hK.out _ _ ?_ (fun hNew => ?_)
        · (first | with_reducible exact QD | assumption)
        clear hK K hHeld
        have hHeld := hNew
        clear hNew
        try simp only [Act.put, pz1, pz2, pz3]
        refine tk 12 ⟨some 9, .assign (.tmp 43), 4, "more.go:37", #[⟨5, .data⟩, ⟨11, .chain⟩, ⟨0, .phase⟩, ⟨1, .phase⟩, ⟨2, .phase⟩, ⟨3, .phase⟩, ⟨4, .phase⟩, ⟨5, .phase⟩, { on := 6, ground := Ground.textOnly Departure.lateStores }, { on := 7, ground := Ground.textOnly Departure.lateStores }, { on := 8, ground := Ground.textOnly Departure.lateStores }, { on := 9, ground := Ground.textOnly Departure.lateStores }, { on := 10, ground := Ground.textOnly Departure.lateStores }, { on := 11, ground := Ground.textOnly Departure.lateStoresUnsure }], none⟩ ?_; try simp only [Act.put, pz1, pz2, pz3]
        refine tk 13 ⟨some 10, .assign (.tmp 49), 4, "more.go:37", #[⟨11, .data⟩, ⟨12, .chain⟩, ⟨0, .phase⟩, ⟨1, .phase⟩, ⟨2, .phase⟩, ⟨3, .phase⟩, ⟨4, .phase⟩, ⟨5, .phase⟩, ⟨6, .phase⟩, ⟨7, .phase⟩, ⟨8, .phase⟩, ⟨9, .phase⟩, ⟨10, .phase⟩, ⟨11, .phase⟩, ⟨12, .phase⟩], none⟩ ?_; try simp only [Act.put, pz1, pz2, pz3]
        refine wpAnyH_done (by kernel_rfl) ?_ _
        refine NoPanic.normal ?_
        go_wp2_with fail
        go_meet
        exact ⟨rfl, rfl, hHeld.1, hHeld.2⟩
      case rest =>
        obtain ⟨rfl, rfl, cz1, HBx⟩ := hcut
        have HBy := btr HBr HBr.size HBx
        clear HBx HBr QD cz0 H1 H2
        go_upto_region 9 with (go_at_call 17; ((with_reducible refine (HW.out _).mono ?_); rintro e' w6 ⟨Ao, co, rfl, hone, b6⟩; skip))
        have HBR := btr HBy HBy.size b6
        have cz2 := (b6.cell (p := ⟨bz, _, none⟩) (Nat.lt_of_lt_of_le l1 HBy.size)).trans cz1
        obtain ⟨bo, oo, rfl, l6, q6⟩ := hone.at_ (by simp)
        have co := q6 0 _ rfl
        simp only [Nat.add_zero] at co
        clear q6 hone b6 HBy cz1 HW
        obtain ⟨wq, hwq⟩ : ∃ V, V = w6 := ⟨_, rfl⟩
        rw [← hwq] at HBR cz2 co l6 ⊢
        rcases (show k = 0 ∨ ∃ j, k = j + 1 from by cases k with | zero => exact Or.inl rfl | succ j => exact Or.inr ⟨j, rfl⟩) with hk0 | ⟨j, hkj⟩
        · have g0 : decide (0 < k) = false := decide_eq_false (by omega)
          have QE : (wq.drew.cell? ⟨bz, oz + k, none⟩ = some (.string z) ∧ wq.drew.cell? ⟨bo, oo, none⟩ = some (.string z) ∧ Below wq.heap.size wq wq.drew) := ⟨cz2, co, drew_below (Below.refl _ wq)⟩
          clear hk0 hwq HPV
          cases p <;> cases q
          · exact absurd hpq (by decide)
          · skip
            refine wp_region_noPanic ?_
            refine wp_region_held_drew (S := (fun w_ => w_.cell? ⟨bz, oz + k, none⟩ = some (.string z) ∧ w_.cell? ⟨bo, oo, none⟩ = some (.string z) ∧ Below wq.heap.size wq w_)) (by kernel_rfl) ?_ (fun hHeld => ?_)
            · (first | with_reducible exact QE | assumption)
            refine tk 0 ⟨some 55, .move (.tmp 9), 4, "more.go:39", #[], none⟩ ?_; try simp only [Act.put, pz1, pz2, pz3]
            refine tk 1 ⟨some 56, .unOp .not 4 (.tmp 55), 4, "more.go:39", #[⟨0, .data⟩], none⟩ ?_; try simp only [Act.put, pz1, pz2, pz3]
            refine tk 2 ⟨some 57, .move (.tmp 56), 4, "more.go:39", #[⟨1, .data⟩], none⟩ ?_; try simp only [Act.put, pz1, pz2, pz3]
            refine tk 3 ⟨some 58, .move (.tmp 10), 4, "more.go:39", #[⟨2, .guard⟩], some (2, true)⟩ ?_; try simp only [Act.put, pz1, pz2, pz3]
            refine tk 4 ⟨some 59, .unOp .not 4 (.tmp 58), 4, "more.go:39", #[⟨3, .data⟩, ⟨2, .guard⟩], some (2, true)⟩ ?_; try simp only [Act.put, pz1, pz2, pz3]
            refine tk 5 ⟨some 60, .pick (.tmp 57) (.tmp 59) (.const (.bool false)), 4, "more.go:39", #[⟨2, .data⟩, ⟨4, .data⟩], none⟩ ?_; try simp only [Act.put, pz1, pz2, pz3]
            refine tk 6 ⟨some 61, .move (.tmp 60), 4, "more.go:39", #[⟨5, .data⟩, ⟨2, .chain⟩], none⟩ ?_; try simp only [Act.put, pz1, pz2, pz3]
            refine tk 7 ⟨some 62, .move (.tmp 11), 38, "more.go:39", #[⟨6, .guard⟩], some (6, false)⟩ ?_; try simp only [Act.put, pz1, pz2, pz3]
            refine tk 8 ⟨some 63, .call { callee := .builtin .len, args := #[.tmp 62], argTypes := #[38] }, 3, "more.go:39", #[⟨7, .data⟩, ⟨6, .guard⟩], some (6, false)⟩ ?_; try simp only [Act.put, pz1, pz2, pz3]
            refine tk 9 ⟨some 64, .binOp .neq 3 (.tmp 63) (.const (.int .i64 1)) 3, 4, "more.go:39", #[⟨8, .data⟩, ⟨6, .guard⟩], some (6, false)⟩ ?_; try simp only [Act.put, pz1, pz2, pz3]
            refine tk 10 ⟨some 65, .pick (.tmp 61) (.const (.bool true)) (.tmp 64), 4, "more.go:39", #[⟨6, .data⟩, ⟨9, .data⟩], none⟩ ?_; try simp only [Act.put, pz1, pz2, pz3]
            refine tk 11 ⟨some 66, .move (.tmp 65), 4, "more.go:39", #[⟨10, .data⟩, ⟨6, .chain⟩], none⟩ ?_; try simp only [Act.put, pz1, pz2, pz3]
            refine tk 12 ⟨some 67, .move (.tmp 11), 38, "more.go:39", #[⟨11, .guard⟩], some (11, false)⟩ ?_; try simp only [Act.put, pz1, pz2, pz3]
            refine tk 13 ⟨some 68, .indexAddr 38 (.tmp 67) (.const (.int .i64 0)), 0, "more.go:39", #[⟨12, .data⟩, ⟨11, .guard⟩], some (11, false)⟩ ?_; try simp only [Act.put, pz1, pz2, pz3]
            refine tk 14 ⟨some 69, .load 9 (.tmp 68), 9, "more.go:39", #[⟨13, .data⟩, ⟨11, .guard⟩], some (11, false)⟩ ?_; try simp only [Act.put, pz1, pz2, pz3]
            refine tk 15 ⟨some 70, .move (.tmp 7), 38, "more.go:39", #[⟨11, .guard⟩], some (11, false)⟩ ?_; try simp only [Act.put, pz1, pz2, pz3]
            refine tk 16 ⟨some 71, .move (.tmp 8), 3, "more.go:39", #[⟨11, .guard⟩], some (11, false)⟩ ?_; try simp only [Act.put, pz1, pz2, pz3]
            refine tk 17 ⟨some 72, .indexAddr 38 (.tmp 70) (.tmp 71), 0, "more.go:39", #[⟨15, .data⟩, ⟨16, .data⟩, ⟨11, .guard⟩], some (11, false)⟩ ?_; try simp only [Act.put, pz1, pz2, pz3]
            refine tk 18 ⟨some 73, .load 9 (.tmp 72), 9, "more.go:39", #[⟨17, .data⟩, ⟨11, .guard⟩], some (11, false)⟩ ?_; try simp only [Act.put, pz1, pz2, pz3]
            refine tk 19 ⟨some 74, .binOp .neq 9 (.tmp 69) (.tmp 73) 9, 4, "more.go:39", #[⟨14, .data⟩, ⟨18, .data⟩, ⟨11, .guard⟩], some (11, false)⟩ ?_; try simp only [Act.put, pz1, pz2, pz3]
            refine tk 20 ⟨some 75, .pick (.tmp 66) (.const (.bool true)) (.tmp 74), 4, "more.go:39", #[⟨11, .data⟩, ⟨19, .data⟩], none⟩ ?_; try simp only [Act.put, pz1, pz2, pz3]
            refine tk 21 ⟨some 76, .move (.tmp 75), 4, "more.go:39", #[⟨20, .data⟩, ⟨11, .chain⟩], none⟩ ?_; try simp only [Act.put, pz1, pz2, pz3]
            refine tk 22 ⟨some 77, .move (.tmp 8), 3, "more.go:39", #[⟨21, .guard⟩], some (21, false)⟩ ?_; try simp only [Act.put, pz1, pz2, pz3]
            refine tk 23 ⟨some 78, .binOp .gtr 3 (.tmp 77) (.const (.int .i64 0)) 3, 4, "more.go:39", #[⟨22, .data⟩, ⟨21, .guard⟩], some (21, false)⟩ ?_; try simp only [Act.put, pz1, pz2, pz3]
            refine tk 24 ⟨some 79, .move (.tmp 78), 4, "more.go:39", #[⟨23, .data⟩, ⟨21, .chain⟩, ⟨21, .guard⟩], some (21, false)⟩ ?_; try simp only [Act.put, pz1, pz2, pz3]
            refine tu 25 ⟨some 80, .move (.tmp 7), 38, "more.go:39", #[⟨24, .guard⟩], some (24, true)⟩ ?_
            try simp only [Act.put, pz1, pz2, pz3]
            refine tu 26 ⟨some 81, .move (.tmp 8), 3, "more.go:39", #[⟨24, .guard⟩], some (24, true)⟩ ?_
            try simp only [Act.put, pz1, pz2, pz3]
            refine tu 27 ⟨some 82, .indexAddr 38 (.tmp 80) (.tmp 81), 0, "more.go:39", #[⟨25, .data⟩, ⟨26, .data⟩, ⟨24, .guard⟩], some (24, true)⟩ ?_
            try simp only [Act.put, pz1, pz2, pz3]
            refine tu 28 ⟨some 83, .load 9 (.tmp 82), 9, "more.go:39", #[⟨27, .data⟩, ⟨24, .guard⟩], some (24, true)⟩ ?_
            try simp only [Act.put, pz1, pz2, pz3]
            refine tu 29 ⟨some 84, .move (.tmp 7), 38, "more.go:39", #[⟨24, .guard⟩], some (24, true)⟩ ?_
            try simp only [Act.put, pz1, pz2, pz3]
            refine tu 30 ⟨some 85, .move (.tmp 8), 3, "more.go:39", #[⟨24, .guard⟩], some (24, true)⟩ ?_
            try simp only [Act.put, pz1, pz2, pz3]
            refine tu 31 ⟨some 86, .binOp .sub 3 (.tmp 85) (.const (.int .i64 1)) 3, 3, "more.go:39", #[⟨30, .data⟩, ⟨24, .guard⟩], some (24, true)⟩ ?_
            try simp only [Act.put, pz1, pz2, pz3]
            refine tu 32 ⟨some 87, .indexAddr 38 (.tmp 84) (.tmp 86), 0, "more.go:39", #[⟨29, .data⟩, ⟨31, .data⟩, ⟨24, .guard⟩], some (24, true)⟩ ?_
            try simp only [Act.put, pz1, pz2, pz3]
            refine tu 33 ⟨some 88, .load 9 (.tmp 87), 9, "more.go:39", #[⟨32, .data⟩, ⟨24, .guard⟩], some (24, true)⟩ ?_
            try simp only [Act.put, pz1, pz2, pz3]
            refine tu 34 ⟨some 89, .binOp .leq 9 (.tmp 83) (.tmp 88) 9, 4, "more.go:39", #[⟨28, .data⟩, ⟨33, .data⟩, ⟨24, .guard⟩], some (24, true)⟩ ?_
            try simp only [Act.put, pz1, pz2, pz3]
            refine tk 35 ⟨some 90, .pick (.tmp 79) (.tmp 89) (.const (.bool false)), 4, "more.go:39", #[⟨24, .data⟩, ⟨34, .data⟩, ⟨21, .guard⟩], some (21, false)⟩ ?_; try simp only [Act.put, pz1, pz2, pz3]
            refine tk 36 ⟨some 91, .pick (.tmp 76) (.const (.bool true)) (.tmp 90), 4, "more.go:39", #[⟨21, .data⟩, ⟨35, .data⟩], none⟩ ?_; try simp only [Act.put, pz1, pz2, pz3]
            refine wpAnyH_done (by kernel_rfl) ?_ _
            refine NoPanic.normal ?_
            go_wp2_with fail
            go_roundw
            case rel => exact ⟨k + 1, by omega, by go_num, (by first | exact HBR | exact drew_below HBR)⟩
            case measure => simp [intOf]; omega
          · skip
            refine wp_region_noPanic ?_
            refine wp_region_held_drew (S := (fun w_ => w_.cell? ⟨bz, oz + k, none⟩ = some (.string z) ∧ w_.cell? ⟨bo, oo, none⟩ = some (.string z) ∧ Below wq.heap.size wq w_)) (by kernel_rfl) ?_ (fun hHeld => ?_)
            · (first | with_reducible exact QE | assumption)
            refine tk 0 ⟨some 55, .move (.tmp 9), 4, "more.go:39", #[], none⟩ ?_; try simp only [Act.put, pz1, pz2, pz3]
            refine tk 1 ⟨some 56, .unOp .not 4 (.tmp 55), 4, "more.go:39", #[⟨0, .data⟩], none⟩ ?_; try simp only [Act.put, pz1, pz2, pz3]
            refine tk 2 ⟨some 57, .move (.tmp 56), 4, "more.go:39", #[⟨1, .data⟩], none⟩ ?_; try simp only [Act.put, pz1, pz2, pz3]
            refine tu 3 ⟨some 58, .move (.tmp 10), 4, "more.go:39", #[⟨2, .guard⟩], some (2, true)⟩ ?_
            try simp only [Act.put, pz1, pz2, pz3]
            refine tu 4 ⟨some 59, .unOp .not 4 (.tmp 58), 4, "more.go:39", #[⟨3, .data⟩, ⟨2, .guard⟩], some (2, true)⟩ ?_
            try simp only [Act.put, pz1, pz2, pz3]
            refine tk 5 ⟨some 60, .pick (.tmp 57) (.tmp 59) (.const (.bool false)), 4, "more.go:39", #[⟨2, .data⟩, ⟨4, .data⟩], none⟩ ?_; try simp only [Act.put, pz1, pz2, pz3]
            refine tk 6 ⟨some 61, .move (.tmp 60), 4, "more.go:39", #[⟨5, .data⟩, ⟨2, .chain⟩], none⟩ ?_; try simp only [Act.put, pz1, pz2, pz3]
            refine tk 7 ⟨some 62, .move (.tmp 11), 38, "more.go:39", #[⟨6, .guard⟩], some (6, false)⟩ ?_; try simp only [Act.put, pz1, pz2, pz3]
            refine tk 8 ⟨some 63, .call { callee := .builtin .len, args := #[.tmp 62], argTypes := #[38] }, 3, "more.go:39", #[⟨7, .data⟩, ⟨6, .guard⟩], some (6, false)⟩ ?_; try simp only [Act.put, pz1, pz2, pz3]
            refine tk 9 ⟨some 64, .binOp .neq 3 (.tmp 63) (.const (.int .i64 1)) 3, 4, "more.go:39", #[⟨8, .data⟩, ⟨6, .guard⟩], some (6, false)⟩ ?_; try simp only [Act.put, pz1, pz2, pz3]
            refine tk 10 ⟨some 65, .pick (.tmp 61) (.const (.bool true)) (.tmp 64), 4, "more.go:39", #[⟨6, .data⟩, ⟨9, .data⟩], none⟩ ?_; try simp only [Act.put, pz1, pz2, pz3]
            refine tk 11 ⟨some 66, .move (.tmp 65), 4, "more.go:39", #[⟨10, .data⟩, ⟨6, .chain⟩], none⟩ ?_; try simp only [Act.put, pz1, pz2, pz3]
            refine tk 12 ⟨some 67, .move (.tmp 11), 38, "more.go:39", #[⟨11, .guard⟩], some (11, false)⟩ ?_; try simp only [Act.put, pz1, pz2, pz3]
            refine tk 13 ⟨some 68, .indexAddr 38 (.tmp 67) (.const (.int .i64 0)), 0, "more.go:39", #[⟨12, .data⟩, ⟨11, .guard⟩], some (11, false)⟩ ?_; try simp only [Act.put, pz1, pz2, pz3]
            refine tk 14 ⟨some 69, .load 9 (.tmp 68), 9, "more.go:39", #[⟨13, .data⟩, ⟨11, .guard⟩], some (11, false)⟩ ?_; try simp only [Act.put, pz1, pz2, pz3]
            refine tk 15 ⟨some 70, .move (.tmp 7), 38, "more.go:39", #[⟨11, .guard⟩], some (11, false)⟩ ?_; try simp only [Act.put, pz1, pz2, pz3]
            refine tk 16 ⟨some 71, .move (.tmp 8), 3, "more.go:39", #[⟨11, .guard⟩], some (11, false)⟩ ?_; try simp only [Act.put, pz1, pz2, pz3]
            refine tk 17 ⟨some 72, .indexAddr 38 (.tmp 70) (.tmp 71), 0, "more.go:39", #[⟨15, .data⟩, ⟨16, .data⟩, ⟨11, .guard⟩], some (11, false)⟩ ?_; try simp only [Act.put, pz1, pz2, pz3]
            refine tk 18 ⟨some 73, .load 9 (.tmp 72), 9, "more.go:39", #[⟨17, .data⟩, ⟨11, .guard⟩], some (11, false)⟩ ?_; try simp only [Act.put, pz1, pz2, pz3]
            refine tk 19 ⟨some 74, .binOp .neq 9 (.tmp 69) (.tmp 73) 9, 4, "more.go:39", #[⟨14, .data⟩, ⟨18, .data⟩, ⟨11, .guard⟩], some (11, false)⟩ ?_; try simp only [Act.put, pz1, pz2, pz3]
            refine tk 20 ⟨some 75, .pick (.tmp 66) (.const (.bool true)) (.tmp 74), 4, "more.go:39", #[⟨11, .data⟩, ⟨19, .data⟩], none⟩ ?_; try simp only [Act.put, pz1, pz2, pz3]
            refine tk 21 ⟨some 76, .move (.tmp 75), 4, "more.go:39", #[⟨20, .data⟩, ⟨11, .chain⟩], none⟩ ?_; try simp only [Act.put, pz1, pz2, pz3]
            refine tk 22 ⟨some 77, .move (.tmp 8), 3, "more.go:39", #[⟨21, .guard⟩], some (21, false)⟩ ?_; try simp only [Act.put, pz1, pz2, pz3]
            refine tk 23 ⟨some 78, .binOp .gtr 3 (.tmp 77) (.const (.int .i64 0)) 3, 4, "more.go:39", #[⟨22, .data⟩, ⟨21, .guard⟩], some (21, false)⟩ ?_; try simp only [Act.put, pz1, pz2, pz3]
            refine tk 24 ⟨some 79, .move (.tmp 78), 4, "more.go:39", #[⟨23, .data⟩, ⟨21, .chain⟩, ⟨21, .guard⟩], some (21, false)⟩ ?_; try simp only [Act.put, pz1, pz2, pz3]
            refine tu 25 ⟨some 80, .move (.tmp 7), 38, "more.go:39", #[⟨24, .guard⟩], some (24, true)⟩ ?_
            try simp only [Act.put, pz1, pz2, pz3]
            refine tu 26 ⟨some 81, .move (.tmp 8), 3, "more.go:39", #[⟨24, .guard⟩], some (24, true)⟩ ?_
            try simp only [Act.put, pz1, pz2, pz3]
            refine tu 27 ⟨some 82, .indexAddr 38 (.tmp 80) (.tmp 81), 0, "more.go:39", #[⟨25, .data⟩, ⟨26, .data⟩, ⟨24, .guard⟩], some (24, true)⟩ ?_
            try simp only [Act.put, pz1, pz2, pz3]
            refine tu 28 ⟨some 83, .load 9 (.tmp 82), 9, "more.go:39", #[⟨27, .data⟩, ⟨24, .guard⟩], some (24, true)⟩ ?_
            try simp only [Act.put, pz1, pz2, pz3]
            refine tu 29 ⟨some 84, .move (.tmp 7), 38, "more.go:39", #[⟨24, .guard⟩], some (24, true)⟩ ?_
            try simp only [Act.put, pz1, pz2, pz3]
            refine tu 30 ⟨some 85, .move (.tmp 8), 3, "more.go:39", #[⟨24, .guard⟩], some (24, true)⟩ ?_
            try simp only [Act.put, pz1, pz2, pz3]
            refine tu 31 ⟨some 86, .binOp .sub 3 (.tmp 85) (.const (.int .i64 1)) 3, 3, "more.go:39", #[⟨30, .data⟩, ⟨24, .guard⟩], some (24, true)⟩ ?_
            try simp only [Act.put, pz1, pz2, pz3]
            refine tu 32 ⟨some 87, .indexAddr 38 (.tmp 84) (.tmp 86), 0, "more.go:39", #[⟨29, .data⟩, ⟨31, .data⟩, ⟨24, .guard⟩], some (24, true)⟩ ?_
            try simp only [Act.put, pz1, pz2, pz3]
            refine tu 33 ⟨some 88, .load 9 (.tmp 87), 9, "more.go:39", #[⟨32, .data⟩, ⟨24, .guard⟩], some (24, true)⟩ ?_
            try simp only [Act.put, pz1, pz2, pz3]
            refine tu 34 ⟨some 89, .binOp .leq 9 (.tmp 83) (.tmp 88) 9, 4, "more.go:39", #[⟨28, .data⟩, ⟨33, .data⟩, ⟨24, .guard⟩], some (24, true)⟩ ?_
            try simp only [Act.put, pz1, pz2, pz3]
            refine tk 35 ⟨some 90, .pick (.tmp 79) (.tmp 89) (.const (.bool false)), 4, "more.go:39", #[⟨24, .data⟩, ⟨34, .data⟩, ⟨21, .guard⟩], some (21, false)⟩ ?_; try simp only [Act.put, pz1, pz2, pz3]
            refine tk 36 ⟨some 91, .pick (.tmp 76) (.const (.bool true)) (.tmp 90), 4, "more.go:39", #[⟨21, .data⟩, ⟨35, .data⟩], none⟩ ?_; try simp only [Act.put, pz1, pz2, pz3]
            refine wpAnyH_done (by kernel_rfl) ?_ _
            refine NoPanic.normal ?_
            go_wp2_with fail
            go_roundw
            case rel => exact ⟨k + 1, by omega, by go_num, (by first | exact HBR | exact drew_below HBR)⟩
            case measure => simp [intOf]; omega
          · skip
            refine wp_region_noPanic ?_
            refine wp_region_held_drew (S := (fun w_ => w_.cell? ⟨bz, oz + k, none⟩ = some (.string z) ∧ w_.cell? ⟨bo, oo, none⟩ = some (.string z) ∧ Below wq.heap.size wq w_)) (by kernel_rfl) ?_ (fun hHeld => ?_)
            · (first | with_reducible exact QE | assumption)
            refine tk 0 ⟨some 55, .move (.tmp 9), 4, "more.go:39", #[], none⟩ ?_; try simp only [Act.put, pz1, pz2, pz3]
            refine tk 1 ⟨some 56, .unOp .not 4 (.tmp 55), 4, "more.go:39", #[⟨0, .data⟩], none⟩ ?_; try simp only [Act.put, pz1, pz2, pz3]
            refine tk 2 ⟨some 57, .move (.tmp 56), 4, "more.go:39", #[⟨1, .data⟩], none⟩ ?_; try simp only [Act.put, pz1, pz2, pz3]
            refine tu 3 ⟨some 58, .move (.tmp 10), 4, "more.go:39", #[⟨2, .guard⟩], some (2, true)⟩ ?_
            try simp only [Act.put, pz1, pz2, pz3]
            refine tu 4 ⟨some 59, .unOp .not 4 (.tmp 58), 4, "more.go:39", #[⟨3, .data⟩, ⟨2, .guard⟩], some (2, true)⟩ ?_
            try simp only [Act.put, pz1, pz2, pz3]
            refine tk 5 ⟨some 60, .pick (.tmp 57) (.tmp 59) (.const (.bool false)), 4, "more.go:39", #[⟨2, .data⟩, ⟨4, .data⟩], none⟩ ?_; try simp only [Act.put, pz1, pz2, pz3]
            refine tk 6 ⟨some 61, .move (.tmp 60), 4, "more.go:39", #[⟨5, .data⟩, ⟨2, .chain⟩], none⟩ ?_; try simp only [Act.put, pz1, pz2, pz3]
            refine tk 7 ⟨some 62, .move (.tmp 11), 38, "more.go:39", #[⟨6, .guard⟩], some (6, false)⟩ ?_; try simp only [Act.put, pz1, pz2, pz3]
            refine tk 8 ⟨some 63, .call { callee := .builtin .len, args := #[.tmp 62], argTypes := #[38] }, 3, "more.go:39", #[⟨7, .data⟩, ⟨6, .guard⟩], some (6, false)⟩ ?_; try simp only [Act.put, pz1, pz2, pz3]
            refine tk 9 ⟨some 64, .binOp .neq 3 (.tmp 63) (.const (.int .i64 1)) 3, 4, "more.go:39", #[⟨8, .data⟩, ⟨6, .guard⟩], some (6, false)⟩ ?_; try simp only [Act.put, pz1, pz2, pz3]
            refine tk 10 ⟨some 65, .pick (.tmp 61) (.const (.bool true)) (.tmp 64), 4, "more.go:39", #[⟨6, .data⟩, ⟨9, .data⟩], none⟩ ?_; try simp only [Act.put, pz1, pz2, pz3]
            refine tk 11 ⟨some 66, .move (.tmp 65), 4, "more.go:39", #[⟨10, .data⟩, ⟨6, .chain⟩], none⟩ ?_; try simp only [Act.put, pz1, pz2, pz3]
            refine tk 12 ⟨some 67, .move (.tmp 11), 38, "more.go:39", #[⟨11, .guard⟩], some (11, false)⟩ ?_; try simp only [Act.put, pz1, pz2, pz3]
            refine tk 13 ⟨some 68, .indexAddr 38 (.tmp 67) (.const (.int .i64 0)), 0, "more.go:39", #[⟨12, .data⟩, ⟨11, .guard⟩], some (11, false)⟩ ?_; try simp only [Act.put, pz1, pz2, pz3]
            refine tk 14 ⟨some 69, .load 9 (.tmp 68), 9, "more.go:39", #[⟨13, .data⟩, ⟨11, .guard⟩], some (11, false)⟩ ?_; try simp only [Act.put, pz1, pz2, pz3]
            refine tk 15 ⟨some 70, .move (.tmp 7), 38, "more.go:39", #[⟨11, .guard⟩], some (11, false)⟩ ?_; try simp only [Act.put, pz1, pz2, pz3]
            refine tk 16 ⟨some 71, .move (.tmp 8), 3, "more.go:39", #[⟨11, .guard⟩], some (11, false)⟩ ?_; try simp only [Act.put, pz1, pz2, pz3]
            refine tk 17 ⟨some 72, .indexAddr 38 (.tmp 70) (.tmp 71), 0, "more.go:39", #[⟨15, .data⟩, ⟨16, .data⟩, ⟨11, .guard⟩], some (11, false)⟩ ?_; try simp only [Act.put, pz1, pz2, pz3]
            refine tk 18 ⟨some 73, .load 9 (.tmp 72), 9, "more.go:39", #[⟨17, .data⟩, ⟨11, .guard⟩], some (11, false)⟩ ?_; try simp only [Act.put, pz1, pz2, pz3]
            refine tk 19 ⟨some 74, .binOp .neq 9 (.tmp 69) (.tmp 73) 9, 4, "more.go:39", #[⟨14, .data⟩, ⟨18, .data⟩, ⟨11, .guard⟩], some (11, false)⟩ ?_; try simp only [Act.put, pz1, pz2, pz3]
            refine tk 20 ⟨some 75, .pick (.tmp 66) (.const (.bool true)) (.tmp 74), 4, "more.go:39", #[⟨11, .data⟩, ⟨19, .data⟩], none⟩ ?_; try simp only [Act.put, pz1, pz2, pz3]
            refine tk 21 ⟨some 76, .move (.tmp 75), 4, "more.go:39", #[⟨20, .data⟩, ⟨11, .chain⟩], none⟩ ?_; try simp only [Act.put, pz1, pz2, pz3]
            refine tk 22 ⟨some 77, .move (.tmp 8), 3, "more.go:39", #[⟨21, .guard⟩], some (21, false)⟩ ?_; try simp only [Act.put, pz1, pz2, pz3]
            refine tk 23 ⟨some 78, .binOp .gtr 3 (.tmp 77) (.const (.int .i64 0)) 3, 4, "more.go:39", #[⟨22, .data⟩, ⟨21, .guard⟩], some (21, false)⟩ ?_; try simp only [Act.put, pz1, pz2, pz3]
            refine tk 24 ⟨some 79, .move (.tmp 78), 4, "more.go:39", #[⟨23, .data⟩, ⟨21, .chain⟩, ⟨21, .guard⟩], some (21, false)⟩ ?_; try simp only [Act.put, pz1, pz2, pz3]
            refine tu 25 ⟨some 80, .move (.tmp 7), 38, "more.go:39", #[⟨24, .guard⟩], some (24, true)⟩ ?_
            try simp only [Act.put, pz1, pz2, pz3]
            refine tu 26 ⟨some 81, .move (.tmp 8), 3, "more.go:39", #[⟨24, .guard⟩], some (24, true)⟩ ?_
            try simp only [Act.put, pz1, pz2, pz3]
            refine tu 27 ⟨some 82, .indexAddr 38 (.tmp 80) (.tmp 81), 0, "more.go:39", #[⟨25, .data⟩, ⟨26, .data⟩, ⟨24, .guard⟩], some (24, true)⟩ ?_
            try simp only [Act.put, pz1, pz2, pz3]
            refine tu 28 ⟨some 83, .load 9 (.tmp 82), 9, "more.go:39", #[⟨27, .data⟩, ⟨24, .guard⟩], some (24, true)⟩ ?_
            try simp only [Act.put, pz1, pz2, pz3]
            refine tu 29 ⟨some 84, .move (.tmp 7), 38, "more.go:39", #[⟨24, .guard⟩], some (24, true)⟩ ?_
            try simp only [Act.put, pz1, pz2, pz3]
            refine tu 30 ⟨some 85, .move (.tmp 8), 3, "more.go:39", #[⟨24, .guard⟩], some (24, true)⟩ ?_
            try simp only [Act.put, pz1, pz2, pz3]
            refine tu 31 ⟨some 86, .binOp .sub 3 (.tmp 85) (.const (.int .i64 1)) 3, 3, "more.go:39", #[⟨30, .data⟩, ⟨24, .guard⟩], some (24, true)⟩ ?_
            try simp only [Act.put, pz1, pz2, pz3]
            refine tu 32 ⟨some 87, .indexAddr 38 (.tmp 84) (.tmp 86), 0, "more.go:39", #[⟨29, .data⟩, ⟨31, .data⟩, ⟨24, .guard⟩], some (24, true)⟩ ?_
            try simp only [Act.put, pz1, pz2, pz3]
            refine tu 33 ⟨some 88, .load 9 (.tmp 87), 9, "more.go:39", #[⟨32, .data⟩, ⟨24, .guard⟩], some (24, true)⟩ ?_
            try simp only [Act.put, pz1, pz2, pz3]
            refine tu 34 ⟨some 89, .binOp .leq 9 (.tmp 83) (.tmp 88) 9, 4, "more.go:39", #[⟨28, .data⟩, ⟨33, .data⟩, ⟨24, .guard⟩], some (24, true)⟩ ?_
            try simp only [Act.put, pz1, pz2, pz3]
            refine tk 35 ⟨some 90, .pick (.tmp 79) (.tmp 89) (.const (.bool false)), 4, "more.go:39", #[⟨24, .data⟩, ⟨34, .data⟩, ⟨21, .guard⟩], some (21, false)⟩ ?_; try simp only [Act.put, pz1, pz2, pz3]
            refine tk 36 ⟨some 91, .pick (.tmp 76) (.const (.bool true)) (.tmp 90), 4, "more.go:39", #[⟨21, .data⟩, ⟨35, .data⟩], none⟩ ?_; try simp only [Act.put, pz1, pz2, pz3]
            refine wpAnyH_done (by kernel_rfl) ?_ _
            refine NoPanic.normal ?_
            go_wp2_with fail
            go_roundw
            case rel => exact ⟨k + 1, by omega, by go_num, (by first | exact HBR | exact drew_below HBR)⟩
            case measure => simp [intOf]; omega
        · obtain ⟨zp, ⟨hzp, hzq⟩, hcp⟩ := HPV.out j hkj
          have g0 : decide (0 < k) = true := decide_eq_true (by omega)
          have g1 : (k : Int) - 1 = (j : Int) := by omega
          have g2 : (j : Int) < (nz : Int) := by omega
          have g3 : (0 : Int) ≤ (j : Int) := by omega
          have g4 : IntKind.i64.wrap (j : Int) = (j : Int) := wrapS _ (by omega) (by omega)
          have QE : (wq.drew.cell? ⟨bz, oz + k, none⟩ = some (.string z) ∧ wq.drew.cell? ⟨bo, oo, none⟩ = some (.string z) ∧ Below wq.heap.size wq wq.drew ∧ wq.drew.cell? ⟨bz, oz + j, none⟩ = some (.string zp)) := ⟨cz2, co, drew_below (Below.refl _ wq), hcp _ (drew_below HBR)⟩
          clear hkj hwq HPV hcp
          cases p <;> cases q
          · exact absurd hpq (by decide)
          · skip
            refine wp_region_noPanic ?_
            refine wp_region_held_drew (S := (fun w_ => w_.cell? ⟨bz, oz + k, none⟩ = some (.string z) ∧ w_.cell? ⟨bo, oo, none⟩ = some (.string z) ∧ Below wq.heap.size wq w_ ∧ w_.cell? ⟨bz, oz + j, none⟩ = some (.string zp))) (by kernel_rfl) ?_ (fun hHeld => ?_)
            · (first | with_reducible exact QE | assumption)
            refine tk 0 ⟨some 55, .move (.tmp 9), 4, "more.go:39", #[], none⟩ ?_; try simp only [Act.put, pz1, pz2, pz3]
            refine tk 1 ⟨some 56, .unOp .not 4 (.tmp 55), 4, "more.go:39", #[⟨0, .data⟩], none⟩ ?_; try simp only [Act.put, pz1, pz2, pz3]
            refine tk 2 ⟨some 57, .move (.tmp 56), 4, "more.go:39", #[⟨1, .data⟩], none⟩ ?_; try simp only [Act.put, pz1, pz2, pz3]
            refine tk 3 ⟨some 58, .move (.tmp 10), 4, "more.go:39", #[⟨2, .guard⟩], some (2, true)⟩ ?_; try simp only [Act.put, pz1, pz2, pz3]
            refine tk 4 ⟨some 59, .unOp .not 4 (.tmp 58), 4, "more.go:39", #[⟨3, .data⟩, ⟨2, .guard⟩], some (2, true)⟩ ?_; try simp only [Act.put, pz1, pz2, pz3]
            refine tk 5 ⟨some 60, .pick (.tmp 57) (.tmp 59) (.const (.bool false)), 4, "more.go:39", #[⟨2, .data⟩, ⟨4, .data⟩], none⟩ ?_; try simp only [Act.put, pz1, pz2, pz3]
            refine tk 6 ⟨some 61, .move (.tmp 60), 4, "more.go:39", #[⟨5, .data⟩, ⟨2, .chain⟩], none⟩ ?_; try simp only [Act.put, pz1, pz2, pz3]
            refine tk 7 ⟨some 62, .move (.tmp 11), 38, "more.go:39", #[⟨6, .guard⟩], some (6, false)⟩ ?_; try simp only [Act.put, pz1, pz2, pz3]
            refine tk 8 ⟨some 63, .call { callee := .builtin .len, args := #[.tmp 62], argTypes := #[38] }, 3, "more.go:39", #[⟨7, .data⟩, ⟨6, .guard⟩], some (6, false)⟩ ?_; try simp only [Act.put, pz1, pz2, pz3]
            refine tk 9 ⟨some 64, .binOp .neq 3 (.tmp 63) (.const (.int .i64 1)) 3, 4, "more.go:39", #[⟨8, .data⟩, ⟨6, .guard⟩], some (6, false)⟩ ?_; try simp only [Act.put, pz1, pz2, pz3]
            refine tk 10 ⟨some 65, .pick (.tmp 61) (.const (.bool true)) (.tmp 64), 4, "more.go:39", #[⟨6, .data⟩, ⟨9, .data⟩], none⟩ ?_; try simp only [Act.put, pz1, pz2, pz3]
            refine tk 11 ⟨some 66, .move (.tmp 65), 4, "more.go:39", #[⟨10, .data⟩, ⟨6, .chain⟩], none⟩ ?_; try simp only [Act.put, pz1, pz2, pz3]
            refine tk 12 ⟨some 67, .move (.tmp 11), 38, "more.go:39", #[⟨11, .guard⟩], some (11, false)⟩ ?_; try simp only [Act.put, pz1, pz2, pz3]
            refine tk 13 ⟨some 68, .indexAddr 38 (.tmp 67) (.const (.int .i64 0)), 0, "more.go:39", #[⟨12, .data⟩, ⟨11, .guard⟩], some (11, false)⟩ ?_; try simp only [Act.put, pz1, pz2, pz3]
            refine tk 14 ⟨some 69, .load 9 (.tmp 68), 9, "more.go:39", #[⟨13, .data⟩, ⟨11, .guard⟩], some (11, false)⟩ ?_; try simp only [Act.put, pz1, pz2, pz3]
            refine tk 15 ⟨some 70, .move (.tmp 7), 38, "more.go:39", #[⟨11, .guard⟩], some (11, false)⟩ ?_; try simp only [Act.put, pz1, pz2, pz3]
            refine tk 16 ⟨some 71, .move (.tmp 8), 3, "more.go:39", #[⟨11, .guard⟩], some (11, false)⟩ ?_; try simp only [Act.put, pz1, pz2, pz3]
            refine tk 17 ⟨some 72, .indexAddr 38 (.tmp 70) (.tmp 71), 0, "more.go:39", #[⟨15, .data⟩, ⟨16, .data⟩, ⟨11, .guard⟩], some (11, false)⟩ ?_; try simp only [Act.put, pz1, pz2, pz3]
            refine tk 18 ⟨some 73, .load 9 (.tmp 72), 9, "more.go:39", #[⟨17, .data⟩, ⟨11, .guard⟩], some (11, false)⟩ ?_; try simp only [Act.put, pz1, pz2, pz3]
            refine tk 19 ⟨some 74, .binOp .neq 9 (.tmp 69) (.tmp 73) 9, 4, "more.go:39", #[⟨14, .data⟩, ⟨18, .data⟩, ⟨11, .guard⟩], some (11, false)⟩ ?_; try simp only [Act.put, pz1, pz2, pz3]
            refine tk 20 ⟨some 75, .pick (.tmp 66) (.const (.bool true)) (.tmp 74), 4, "more.go:39", #[⟨11, .data⟩, ⟨19, .data⟩], none⟩ ?_; try simp only [Act.put, pz1, pz2, pz3]
            refine tk 21 ⟨some 76, .move (.tmp 75), 4, "more.go:39", #[⟨20, .data⟩, ⟨11, .chain⟩], none⟩ ?_; try simp only [Act.put, pz1, pz2, pz3]
            refine tk 22 ⟨some 77, .move (.tmp 8), 3, "more.go:39", #[⟨21, .guard⟩], some (21, false)⟩ ?_; try simp only [Act.put, pz1, pz2, pz3]
            refine tk 23 ⟨some 78, .binOp .gtr 3 (.tmp 77) (.const (.int .i64 0)) 3, 4, "more.go:39", #[⟨22, .data⟩, ⟨21, .guard⟩], some (21, false)⟩ ?_; try simp only [Act.put, pz1, pz2, pz3]
            refine tk 24 ⟨some 79, .move (.tmp 78), 4, "more.go:39", #[⟨23, .data⟩, ⟨21, .chain⟩, ⟨21, .guard⟩], some (21, false)⟩ ?_; try simp only [Act.put, pz1, pz2, pz3]
            refine tk 25 ⟨some 80, .move (.tmp 7), 38, "more.go:39", #[⟨24, .guard⟩], some (24, true)⟩ ?_; try simp only [Act.put, pz1, pz2, pz3]
            refine tk 26 ⟨some 81, .move (.tmp 8), 3, "more.go:39", #[⟨24, .guard⟩], some (24, true)⟩ ?_; try simp only [Act.put, pz1, pz2, pz3]
            refine tk 27 ⟨some 82, .indexAddr 38 (.tmp 80) (.tmp 81), 0, "more.go:39", #[⟨25, .data⟩, ⟨26, .data⟩, ⟨24, .guard⟩], some (24, true)⟩ ?_; try simp only [Act.put, pz1, pz2, pz3]
            refine tk 28 ⟨some 83, .load 9 (.tmp 82), 9, "more.go:39", #[⟨27, .data⟩, ⟨24, .guard⟩], some (24, true)⟩ ?_; try simp only [Act.put, pz1, pz2, pz3]
            refine tk 29 ⟨some 84, .move (.tmp 7), 38, "more.go:39", #[⟨24, .guard⟩], some (24, true)⟩ ?_; try simp only [Act.put, pz1, pz2, pz3]
            refine tk 30 ⟨some 85, .move (.tmp 8), 3, "more.go:39", #[⟨24, .guard⟩], some (24, true)⟩ ?_; try simp only [Act.put, pz1, pz2, pz3]
            refine tk 31 ⟨some 86, .binOp .sub 3 (.tmp 85) (.const (.int .i64 1)) 3, 3, "more.go:39", #[⟨30, .data⟩, ⟨24, .guard⟩], some (24, true)⟩ ?_; try simp only [Act.put, pz1, pz2, pz3]
            refine tk 32 ⟨some 87, .indexAddr 38 (.tmp 84) (.tmp 86), 0, "more.go:39", #[⟨29, .data⟩, ⟨31, .data⟩, ⟨24, .guard⟩], some (24, true)⟩ ?_; try simp only [Act.put, pz1, pz2, pz3]
            refine tk 33 ⟨some 88, .load 9 (.tmp 87), 9, "more.go:39", #[⟨32, .data⟩, ⟨24, .guard⟩], some (24, true)⟩ ?_; try simp only [Act.put, pz1, pz2, pz3]
            refine tk 34 ⟨some 89, .binOp .leq 9 (.tmp 83) (.tmp 88) 9, 4, "more.go:39", #[⟨28, .data⟩, ⟨33, .data⟩, ⟨24, .guard⟩], some (24, true)⟩ ?_; try simp only [Act.put, pz1, pz2, pz3]
            refine tk 35 ⟨some 90, .pick (.tmp 79) (.tmp 89) (.const (.bool false)), 4, "more.go:39", #[⟨24, .data⟩, ⟨34, .data⟩, ⟨21, .guard⟩], some (21, false)⟩ ?_; try simp only [Act.put, pz1, pz2, pz3]
            refine tk 36 ⟨some 91, .pick (.tmp 76) (.const (.bool true)) (.tmp 90), 4, "more.go:39", #[⟨21, .data⟩, ⟨35, .data⟩], none⟩ ?_; try simp only [Act.put, pz1, pz2, pz3]
            refine wpAnyH_done (by kernel_rfl) ?_ _
            refine NoPanic.normal ?_
            go_wp2_with fail
            go_roundw
            case rel => exact ⟨k + 1, by omega, by go_num, (by first | exact HBR | exact drew_below HBR)⟩
            case measure => simp [intOf]; omega
          · skip
            refine wp_region_noPanic ?_
            refine wp_region_held_drew (S := (fun w_ => w_.cell? ⟨bz, oz + k, none⟩ = some (.string z) ∧ w_.cell? ⟨bo, oo, none⟩ = some (.string z) ∧ Below wq.heap.size wq w_ ∧ w_.cell? ⟨bz, oz + j, none⟩ = some (.string zp))) (by kernel_rfl) ?_ (fun hHeld => ?_)
            · (first | with_reducible exact QE | assumption)
            refine tk 0 ⟨some 55, .move (.tmp 9), 4, "more.go:39", #[], none⟩ ?_; try simp only [Act.put, pz1, pz2, pz3]
            refine tk 1 ⟨some 56, .unOp .not 4 (.tmp 55), 4, "more.go:39", #[⟨0, .data⟩], none⟩ ?_; try simp only [Act.put, pz1, pz2, pz3]
            refine tk 2 ⟨some 57, .move (.tmp 56), 4, "more.go:39", #[⟨1, .data⟩], none⟩ ?_; try simp only [Act.put, pz1, pz2, pz3]
            refine tu 3 ⟨some 58, .move (.tmp 10), 4, "more.go:39", #[⟨2, .guard⟩], some (2, true)⟩ ?_
            try simp only [Act.put, pz1, pz2, pz3]
            refine tu 4 ⟨some 59, .unOp .not 4 (.tmp 58), 4, "more.go:39", #[⟨3, .data⟩, ⟨2, .guard⟩], some (2, true)⟩ ?_
            try simp only [Act.put, pz1, pz2, pz3]
            refine tk 5 ⟨some 60, .pick (.tmp 57) (.tmp 59) (.const (.bool false)), 4, "more.go:39", #[⟨2, .data⟩, ⟨4, .data⟩], none⟩ ?_; try simp only [Act.put, pz1, pz2, pz3]
            refine tk 6 ⟨some 61, .move (.tmp 60), 4, "more.go:39", #[⟨5, .data⟩, ⟨2, .chain⟩], none⟩ ?_; try simp only [Act.put, pz1, pz2, pz3]
            refine tk 7 ⟨some 62, .move (.tmp 11), 38, "more.go:39", #[⟨6, .guard⟩], some (6, false)⟩ ?_; try simp only [Act.put, pz1, pz2, pz3]
            refine tk 8 ⟨some 63, .call { callee := .builtin .len, args := #[.tmp 62], argTypes := #[38] }, 3, "more.go:39", #[⟨7, .data⟩, ⟨6, .guard⟩], some (6, false)⟩ ?_; try simp only [Act.put, pz1, pz2, pz3]
            refine tk 9 ⟨some 64, .binOp .neq 3 (.tmp 63) (.const (.int .i64 1)) 3, 4, "more.go:39", #[⟨8, .data⟩, ⟨6, .guard⟩], some (6, false)⟩ ?_; try simp only [Act.put, pz1, pz2, pz3]
            refine tk 10 ⟨some 65, .pick (.tmp 61) (.const (.bool true)) (.tmp 64), 4, "more.go:39", #[⟨6, .data⟩, ⟨9, .data⟩], none⟩ ?_; try simp only [Act.put, pz1, pz2, pz3]
            refine tk 11 ⟨some 66, .move (.tmp 65), 4, "more.go:39", #[⟨10, .data⟩, ⟨6, .chain⟩], none⟩ ?_; try simp only [Act.put, pz1, pz2, pz3]
            refine tk 12 ⟨some 67, .move (.tmp 11), 38, "more.go:39", #[⟨11, .guard⟩], some (11, false)⟩ ?_; try simp only [Act.put, pz1, pz2, pz3]
            refine tk 13 ⟨some 68, .indexAddr 38 (.tmp 67) (.const (.int .i64 0)), 0, "more.go:39", #[⟨12, .data⟩, ⟨11, .guard⟩], some (11, false)⟩ ?_; try simp only [Act.put, pz1, pz2, pz3]
            refine tk 14 ⟨some 69, .load 9 (.tmp 68), 9, "more.go:39", #[⟨13, .data⟩, ⟨11, .guard⟩], some (11, false)⟩ ?_; try simp only [Act.put, pz1, pz2, pz3]
            refine tk 15 ⟨some 70, .move (.tmp 7), 38, "more.go:39", #[⟨11, .guard⟩], some (11, false)⟩ ?_; try simp only [Act.put, pz1, pz2, pz3]
            refine tk 16 ⟨some 71, .move (.tmp 8), 3, "more.go:39", #[⟨11, .guard⟩], some (11, false)⟩ ?_; try simp only [Act.put, pz1, pz2, pz3]
            refine tk 17 ⟨some 72, .indexAddr 38 (.tmp 70) (.tmp 71), 0, "more.go:39", #[⟨15, .data⟩, ⟨16, .data⟩, ⟨11, .guard⟩], some (11, false)⟩ ?_; try simp only [Act.put, pz1, pz2, pz3]
            refine tk 18 ⟨some 73, .load 9 (.tmp 72), 9, "more.go:39", #[⟨17, .data⟩, ⟨11, .guard⟩], some (11, false)⟩ ?_; try simp only [Act.put, pz1, pz2, pz3]
            refine tk 19 ⟨some 74, .binOp .neq 9 (.tmp 69) (.tmp 73) 9, 4, "more.go:39", #[⟨14, .data⟩, ⟨18, .data⟩, ⟨11, .guard⟩], some (11, false)⟩ ?_; try simp only [Act.put, pz1, pz2, pz3]
            refine tk 20 ⟨some 75, .pick (.tmp 66) (.const (.bool true)) (.tmp 74), 4, "more.go:39", #[⟨11, .data⟩, ⟨19, .data⟩], none⟩ ?_; try simp only [Act.put, pz1, pz2, pz3]
            refine tk 21 ⟨some 76, .move (.tmp 75), 4, "more.go:39", #[⟨20, .data⟩, ⟨11, .chain⟩], none⟩ ?_; try simp only [Act.put, pz1, pz2, pz3]
            refine tk 22 ⟨some 77, .move (.tmp 8), 3, "more.go:39", #[⟨21, .guard⟩], some (21, false)⟩ ?_; try simp only [Act.put, pz1, pz2, pz3]
            refine tk 23 ⟨some 78, .binOp .gtr 3 (.tmp 77) (.const (.int .i64 0)) 3, 4, "more.go:39", #[⟨22, .data⟩, ⟨21, .guard⟩], some (21, false)⟩ ?_; try simp only [Act.put, pz1, pz2, pz3]
            refine tk 24 ⟨some 79, .move (.tmp 78), 4, "more.go:39", #[⟨23, .data⟩, ⟨21, .chain⟩, ⟨21, .guard⟩], some (21, false)⟩ ?_; try simp only [Act.put, pz1, pz2, pz3]
            refine tk 25 ⟨some 80, .move (.tmp 7), 38, "more.go:39", #[⟨24, .guard⟩], some (24, true)⟩ ?_; try simp only [Act.put, pz1, pz2, pz3]
            refine tk 26 ⟨some 81, .move (.tmp 8), 3, "more.go:39", #[⟨24, .guard⟩], some (24, true)⟩ ?_; try simp only [Act.put, pz1, pz2, pz3]
            refine tk 27 ⟨some 82, .indexAddr 38 (.tmp 80) (.tmp 81), 0, "more.go:39", #[⟨25, .data⟩, ⟨26, .data⟩, ⟨24, .guard⟩], some (24, true)⟩ ?_; try simp only [Act.put, pz1, pz2, pz3]
            refine tk 28 ⟨some 83, .load 9 (.tmp 82), 9, "more.go:39", #[⟨27, .data⟩, ⟨24, .guard⟩], some (24, true)⟩ ?_; try simp only [Act.put, pz1, pz2, pz3]
            refine tk 29 ⟨some 84, .move (.tmp 7), 38, "more.go:39", #[⟨24, .guard⟩], some (24, true)⟩ ?_; try simp only [Act.put, pz1, pz2, pz3]
            refine tk 30 ⟨some 85, .move (.tmp 8), 3, "more.go:39", #[⟨24, .guard⟩], some (24, true)⟩ ?_; try simp only [Act.put, pz1, pz2, pz3]
            refine tk 31 ⟨some 86, .binOp .sub 3 (.tmp 85) (.const (.int .i64 1)) 3, 3, "more.go:39", #[⟨30, .data⟩, ⟨24, .guard⟩], some (24, true)⟩ ?_; try simp only [Act.put, pz1, pz2, pz3]
            refine tk 32 ⟨some 87, .indexAddr 38 (.tmp 84) (.tmp 86), 0, "more.go:39", #[⟨29, .data⟩, ⟨31, .data⟩, ⟨24, .guard⟩], some (24, true)⟩ ?_; try simp only [Act.put, pz1, pz2, pz3]
            refine tk 33 ⟨some 88, .load 9 (.tmp 87), 9, "more.go:39", #[⟨32, .data⟩, ⟨24, .guard⟩], some (24, true)⟩ ?_; try simp only [Act.put, pz1, pz2, pz3]
            refine tk 34 ⟨some 89, .binOp .leq 9 (.tmp 83) (.tmp 88) 9, 4, "more.go:39", #[⟨28, .data⟩, ⟨33, .data⟩, ⟨24, .guard⟩], some (24, true)⟩ ?_; try simp only [Act.put, pz1, pz2, pz3]
            refine tk 35 ⟨some 90, .pick (.tmp 79) (.tmp 89) (.const (.bool false)), 4, "more.go:39", #[⟨24, .data⟩, ⟨34, .data⟩, ⟨21, .guard⟩], some (21, false)⟩ ?_; try simp only [Act.put, pz1, pz2, pz3]
            refine tk 36 ⟨some 91, .pick (.tmp 76) (.const (.bool true)) (.tmp 90), 4, "more.go:39", #[⟨21, .data⟩, ⟨35, .data⟩], none⟩ ?_; try simp only [Act.put, pz1, pz2, pz3]
            refine wpAnyH_done (by kernel_rfl) ?_ _
            refine NoPanic.normal ?_
            go_wp2_with fail
            go_roundw
            case rel => exact ⟨k + 1, by omega, by go_num, (by first | exact HBR | exact drew_below HBR)⟩
            case measure => simp [intOf]; omega
          · skip
            refine wp_region_noPanic ?_
            refine wp_region_held_drew (S := (fun w_ => w_.cell? ⟨bz, oz + k, none⟩ = some (.string z) ∧ w_.cell? ⟨bo, oo, none⟩ = some (.string z) ∧ Below wq.heap.size wq w_ ∧ w_.cell? ⟨bz, oz + j, none⟩ = some (.string zp))) (by kernel_rfl) ?_ (fun hHeld => ?_)
            · (first | with_reducible exact QE | assumption)
            refine tk 0 ⟨some 55, .move (.tmp 9), 4, "more.go:39", #[], none⟩ ?_; try simp only [Act.put, pz1, pz2, pz3]
            refine tk 1 ⟨some 56, .unOp .not 4 (.tmp 55), 4, "more.go:39", #[⟨0, .data⟩], none⟩ ?_; try simp only [Act.put, pz1, pz2, pz3]
            refine tk 2 ⟨some 57, .move (.tmp 56), 4, "more.go:39", #[⟨1, .data⟩], none⟩ ?_; try simp only [Act.put, pz1, pz2, pz3]
            refine tu 3 ⟨some 58, .move (.tmp 10), 4, "more.go:39", #[⟨2, .guard⟩], some (2, true)⟩ ?_
            try simp only [Act.put, pz1, pz2, pz3]
            refine tu 4 ⟨some 59, .unOp .not 4 (.tmp 58), 4, "more.go:39", #[⟨3, .data⟩, ⟨2, .guard⟩], some (2, true)⟩ ?_
            try simp only [Act.put, pz1, pz2, pz3]
            refine tk 5 ⟨some 60, .pick (.tmp 57) (.tmp 59) (.const (.bool false)), 4, "more.go:39", #[⟨2, .data⟩, ⟨4, .data⟩], none⟩ ?_; try simp only [Act.put, pz1, pz2, pz3]
            refine tk 6 ⟨some 61, .move (.tmp 60), 4, "more.go:39", #[⟨5, .data⟩, ⟨2, .chain⟩], none⟩ ?_; try simp only [Act.put, pz1, pz2, pz3]
            refine tk 7 ⟨some 62, .move (.tmp 11), 38, "more.go:39", #[⟨6, .guard⟩], some (6, false)⟩ ?_; try simp only [Act.put, pz1, pz2, pz3]
            refine tk 8 ⟨some 63, .call { callee := .builtin .len, args := #[.tmp 62], argTypes := #[38] }, 3, "more.go:39", #[⟨7, .data⟩, ⟨6, .guard⟩], some (6, false)⟩ ?_; try simp only [Act.put, pz1, pz2, pz3]
            refine tk 9 ⟨some 64, .binOp .neq 3 (.tmp 63) (.const (.int .i64 1)) 3, 4, "more.go:39", #[⟨8, .data⟩, ⟨6, .guard⟩], some (6, false)⟩ ?_; try simp only [Act.put, pz1, pz2, pz3]
            refine tk 10 ⟨some 65, .pick (.tmp 61) (.const (.bool true)) (.tmp 64), 4, "more.go:39", #[⟨6, .data⟩, ⟨9, .data⟩], none⟩ ?_; try simp only [Act.put, pz1, pz2, pz3]
            refine tk 11 ⟨some 66, .move (.tmp 65), 4, "more.go:39", #[⟨10, .data⟩, ⟨6, .chain⟩], none⟩ ?_; try simp only [Act.put, pz1, pz2, pz3]
            refine tk 12 ⟨some 67, .move (.tmp 11), 38, "more.go:39", #[⟨11, .guard⟩], some (11, false)⟩ ?_; try simp only [Act.put, pz1, pz2, pz3]
            refine tk 13 ⟨some 68, .indexAddr 38 (.tmp 67) (.const (.int .i64 0)), 0, "more.go:39", #[⟨12, .data⟩, ⟨11, .guard⟩], some (11, false)⟩ ?_; try simp only [Act.put, pz1, pz2, pz3]
            refine tk 14 ⟨some 69, .load 9 (.tmp 68), 9, "more.go:39", #[⟨13, .data⟩, ⟨11, .guard⟩], some (11, false)⟩ ?_; try simp only [Act.put, pz1, pz2, pz3]
            refine tk 15 ⟨some 70, .move (.tmp 7), 38, "more.go:39", #[⟨11, .guard⟩], some (11, false)⟩ ?_; try simp only [Act.put, pz1, pz2, pz3]
            refine tk 16 ⟨some 71, .move (.tmp 8), 3, "more.go:39", #[⟨11, .guard⟩], some (11, false)⟩ ?_; try simp only [Act.put, pz1, pz2, pz3]
            refine tk 17 ⟨some 72, .indexAddr 38 (.tmp 70) (.tmp 71), 0, "more.go:39", #[⟨15, .data⟩, ⟨16, .data⟩, ⟨11, .guard⟩], some (11, false)⟩ ?_; try simp only [Act.put, pz1, pz2, pz3]
            refine tk 18 ⟨some 73, .load 9 (.tmp 72), 9, "more.go:39", #[⟨17, .data⟩, ⟨11, .guard⟩], some (11, false)⟩ ?_; try simp only [Act.put, pz1, pz2, pz3]
            refine tk 19 ⟨some 74, .binOp .neq 9 (.tmp 69) (.tmp 73) 9, 4, "more.go:39", #[⟨14, .data⟩, ⟨18, .data⟩, ⟨11, .guard⟩], some (11, false)⟩ ?_; try simp only [Act.put, pz1, pz2, pz3]
            refine tk 20 ⟨some 75, .pick (.tmp 66) (.const (.bool true)) (.tmp 74), 4, "more.go:39", #[⟨11, .data⟩, ⟨19, .data⟩], none⟩ ?_; try simp only [Act.put, pz1, pz2, pz3]
            refine tk 21 ⟨some 76, .move (.tmp 75), 4, "more.go:39", #[⟨20, .data⟩, ⟨11, .chain⟩], none⟩ ?_; try simp only [Act.put, pz1, pz2, pz3]
            refine tk 22 ⟨some 77, .move (.tmp 8), 3, "more.go:39", #[⟨21, .guard⟩], some (21, false)⟩ ?_; try simp only [Act.put, pz1, pz2, pz3]
            refine tk 23 ⟨some 78, .binOp .gtr 3 (.tmp 77) (.const (.int .i64 0)) 3, 4, "more.go:39", #[⟨22, .data⟩, ⟨21, .guard⟩], some (21, false)⟩ ?_; try simp only [Act.put, pz1, pz2, pz3]
            refine tk 24 ⟨some 79, .move (.tmp 78), 4, "more.go:39", #[⟨23, .data⟩, ⟨21, .chain⟩, ⟨21, .guard⟩], some (21, false)⟩ ?_; try simp only [Act.put, pz1, pz2, pz3]
            refine tk 25 ⟨some 80, .move (.tmp 7), 38, "more.go:39", #[⟨24, .guard⟩], some (24, true)⟩ ?_; try simp only [Act.put, pz1, pz2, pz3]
            refine tk 26 ⟨some 81, .move (.tmp 8), 3, "more.go:39", #[⟨24, .guard⟩], some (24, true)⟩ ?_; try simp only [Act.put, pz1, pz2, pz3]
            refine tk 27 ⟨some 82, .indexAddr 38 (.tmp 80) (.tmp 81), 0, "more.go:39", #[⟨25, .data⟩, ⟨26, .data⟩, ⟨24, .guard⟩], some (24, true)⟩ ?_; try simp only [Act.put, pz1, pz2, pz3]
            refine tk 28 ⟨some 83, .load 9 (.tmp 82), 9, "more.go:39", #[⟨27, .data⟩, ⟨24, .guard⟩], some (24, true)⟩ ?_; try simp only [Act.put, pz1, pz2, pz3]
            refine tk 29 ⟨some 84, .move (.tmp 7), 38, "more.go:39", #[⟨24, .guard⟩], some (24, true)⟩ ?_; try simp only [Act.put, pz1, pz2, pz3]
            refine tk 30 ⟨some 85, .move (.tmp 8), 3, "more.go:39", #[⟨24, .guard⟩], some (24, true)⟩ ?_; try simp only [Act.put, pz1, pz2, pz3]
            refine tk 31 ⟨some 86, .binOp .sub 3 (.tmp 85) (.const (.int .i64 1)) 3, 3, "more.go:39", #[⟨30, .data⟩, ⟨24, .guard⟩], some (24, true)⟩ ?_; try simp only [Act.put, pz1, pz2, pz3]
            refine tk 32 ⟨some 87, .indexAddr 38 (.tmp 84) (.tmp 86), 0, "more.go:39", #[⟨29, .data⟩, ⟨31, .data⟩, ⟨24, .guard⟩], some (24, true)⟩ ?_; try simp only [Act.put, pz1, pz2, pz3]
            refine tk 33 ⟨some 88, .load 9 (.tmp 87), 9, "more.go:39", #[⟨32, .data⟩, ⟨24, .guard⟩], some (24, true)⟩ ?_; try simp only [Act.put, pz1, pz2, pz3]
            refine tk 34 ⟨some 89, .binOp .leq 9 (.tmp 83) (.tmp 88) 9, 4, "more.go:39", #[⟨28, .data⟩, ⟨33, .data⟩, ⟨24, .guard⟩], some (24, true)⟩ ?_; try simp only [Act.put, pz1, pz2, pz3]
            refine tk 35 ⟨some 90, .pick (.tmp 79) (.tmp 89) (.const (.bool false)), 4, "more.go:39", #[⟨24, .data⟩, ⟨34, .data⟩, ⟨21, .guard⟩], some (21, false)⟩ ?_; try simp only [Act.put, pz1, pz2, pz3]
            refine tk 36 ⟨some 91, .pick (.tmp 76) (.const (.bool true)) (.tmp 90), 4, "more.go:39", #[⟨21, .data⟩, ⟨35, .data⟩], none⟩ ?_; try simp only [Act.put, pz1, pz2, pz3]
            refine wpAnyH_done (by kernel_rfl) ?_ _
            refine NoPanic.normal ?_
            go_wp2_with fail
            go_roundw
            case rel => exact ⟨k + 1, by omega, by go_num, (by first | exact HBR | exact drew_below HBR)⟩
            case measure => simp [intOf]; omega
    · obtain rfl : nz = k := by omega
      clear hlt
      have HB0 := HBr
      clear HBr
      go_wp2_with fail
      go_loopw [12] (fun i wr => ∃ j : Nat, j ≤ nx ∧ i = .int .i64 j ∧ Below w3.heap.size w3 wr) (fun i _ => nx - (intOf i).toNat)
      case atStart => exact ⟨0, by omega, rfl, HB0⟩
      case round =>
        obtain ⟨j, hj, rfl, HBr⟩ := hrel
        clear HB0
        by_cases hlt2 : j < nx
        · have hlx : j < (wB a).length := by have := HNX.out; omega
          have i0 : (0 : Int) ≤ (j : Int) := by omega
          have i1 : (j : Int) < (nx : Int) := by omega
          obtain ⟨z, hzx⟩ : ∃ z, (wB a)[j]? = some z := ⟨_, List.getElem?_eq_getElem hlx⟩
          obtain ⟨bx, ox, rfl, l1, q1⟩ := hx.at_ (by rw [List.length_map]; omega)
          have cx1 : wr.cell? ⟨bx, ox + j, none⟩ = some (.string z) := (HBr.cell (p := ⟨bx, _, none⟩) l1).trans (q1 j _ (by rw [List.getElem?_map, hzx]; rfl))
          have hin : z ∈ ZL := by rw [← HZL.out]; exact join_of (a := a) (b := b) (Or.inl (List.mem_of_getElem? hzx))
          have HAM : Hid (Calls Tryz.prog 32 #[.slice Az nz cz, .string z] wr fun e' w' => e' = .returned (.bool true) ∧ w' = wr) := Lib.hid (amongN ZL Az nz cz z wr HNZ.out ((hz.below HBr).mono_ HBr.size) (by rw [HNZ.out]; omega) true (amg_true hin))
          clear hzx q1 hlx hin
          go_wp2_with (go_at_call 32; ((with_reducible refine (HAM.out).mono ?_); rintro e' w5 ⟨rfl, rfl⟩; skip))
          go_roundw
          case rel => exact ⟨j + 1, by omega, by go_num, HBr⟩
          case measure => simp [intOf]; omega
        · obtain rfl : nx = j := by omega
          have HB0 := HBr
          clear HBr hlt2
          go_wp2_with fail
          go_loopw [13] (fun i wr => ∃ j : Nat, j ≤ ny ∧ i = .int .i64 j ∧ Below w3.heap.size w3 wr) (fun i _ => ny - (intOf i).toNat)
          case atStart => exact ⟨0, by omega, rfl, HB0⟩
          case round =>
            obtain ⟨j, hj, rfl, HBr⟩ := hrel
            clear HB0
            by_cases hlt2 : j < ny
            · have hlx : j < (wB b).length := by have := HNY.out; omega
              have i0 : (0 : Int) ≤ (j : Int) := by omega
              have i1 : (j : Int) < (ny : Int) := by omega
              obtain ⟨z, hzx⟩ : ∃ z, (wB b)[j]? = some z := ⟨_, List.getElem?_eq_getElem hlx⟩
              obtain ⟨bx, ox, rfl, l1, q1⟩ := hy.at_ (by rw [List.length_map]; omega)
              have cx1 : wr.cell? ⟨bx, ox + j, none⟩ = some (.string z) := (HBr.cell (p := ⟨bx, _, none⟩) l1).trans (q1 j _ (by rw [List.getElem?_map, hzx]; rfl))
              have hin : z ∈ ZL := by rw [← HZL.out]; exact join_of (a := a) (b := b) (Or.inr (List.mem_of_getElem? hzx))
              have HAM : Hid (Calls Tryz.prog 32 #[.slice Az nz cz, .string z] wr fun e' w' => e' = .returned (.bool true) ∧ w' = wr) := Lib.hid (amongN ZL Az nz cz z wr HNZ.out ((hz.below HBr).mono_ HBr.size) (by rw [HNZ.out]; omega) true (amg_true hin))
              clear hzx q1 hlx hin
              go_wp2_with (go_at_call 32; ((with_reducible refine (HAM.out).mono ?_); rintro e' w5 ⟨rfl, rfl⟩; skip))
              go_roundw
              case rel => exact ⟨j + 1, by omega, by go_num, HBr⟩
              case measure => simp [intOf]; omega
            · obtain rfl : ny = j := by omega
              have HB := btr hB0 hB0.size HBr
              have hx1 := (hx.below HBr).mono_ HBr.size
              clear hlt2
              have g5 : ¬ 9223372036854775807 < 1 + a.size := by have := HA.out; omega
              have g6 : ¬ 9223372036854775807 < 1 + a.size + 2 := by have := HA.out; omega
              go_wp2_with (first | (go_at_call 17; ((with_reducible refine (HWE.out _).mono ?_); rintro e' w7 ⟨A7, c7, rfl, h7, b7⟩; have HB := btr HB HB.size b7; have hx1 := (hx1.below b7).mono_ b7.size; clear b7)) | (go_at_call 21; ((with_reducible refine (sameTextsN (wB a) _ _ nx _ _ _ HNX.out (by omega) h7 hx1).mono ?_); rintro e' w8 ⟨rfl, b8⟩; have HB := btr HB HB.size b8; clear b8)) | (go_at_call 10; ((with_reducible refine (awakeK_any _ (hT.next HB)).mono ?_); rintro e' w9 ⟨rfl, b9⟩; have HB := btr HB HB.size b9; clear b9)))
              go_ret
              exact ⟨rfl, HB⟩
end Go.Proofs.YteokeghenjobaaaGreatDoor
namespace Go.Proofs.YteokeghenjobaaaGreatDoor
open Go.ChangeShapes Go.WideShapes Go.ChangeAt Go.RowKit
theorem acc_eq : Rows.laid_unicode_utf8_acceptRanges = Lib.acceptData := by kernel_rfl
theorem first_eq : Rows.laid_unicode_utf8_first = Lib.firstData := Pinned.utf8First_eq
def laidTabs : List (String × DataW Unit) := [("unicode/utf8.acceptRanges", Lib.acceptData), ("unicode/utf8.first", Lib.firstData)]
theorem laid_eq : [("unicode/utf8.acceptRanges", Rows.laid_unicode_utf8_acceptRanges), ("unicode/utf8.first", Rows.laid_unicode_utf8_first)] = laidTabs := by rw [acc_eq, first_eq]; rfl
noncomputable def laidWorld (os : Os) : World :=
  let w0 := World.holding Tryz.prog os ⟨#[], #[], []⟩
  let put (h : Array Obj) (g : Nat) (cs : Array Value) : Array Obj := h.modify g fun
    | .cells _ t frozen => .cells cs t frozen
    | o => o
  let h1 := put w0.heap 1 (Lib.firstTab.map fun z => Value.int .u8 z).toArray
  let h2 := put h1 2 ((List.range 16).flatMap fun i => [Value.int .u8 (Lib.accLo i), Value.int .u8 (Lib.accHi i)]).toArray
  { w0 with heap := h2 }
theorem noHandle (w : World) : laidMetH Tryz.prog laidTabs w ↔ laidMet Tryz.prog laidTabs w := by
  have e : (laidTabs.filter fun x => x.2.handleName?.isSome) = [] := by kernel_rfl
  unfold laidMetH
  rw [e]
theorem laid_met (os : Os) (args : Array Value) : laidMetH Tryz.prog [("unicode/utf8.acceptRanges", Rows.laid_unicode_utf8_acceptRanges), ("unicode/utf8.first", Rows.laid_unicode_utf8_first)] ((laidWorld os).forCall (fun _ _ => 0) ⟨#[], args, []⟩).memory := by
  rw [laid_eq, noHandle]
  exact (LaidIn.of_run (l := laidTabs) [1, 2] 8 (by kernel_rfl) (by kernel_rfl) (by kernel_rfl) (by kernel_rfl)).met
theorem tabs_of {W : World} (h : laidMetH Tryz.prog [("unicode/utf8.acceptRanges", Rows.laid_unicode_utf8_acceptRanges), ("unicode/utf8.first", Rows.laid_unicode_utf8_first)] W) : Tabs W := by
  rw [laid_eq, noHandle] at h
  exact utf8Tabs_of_readsT (U8Types.of196 Tryz.laysValid) ⟨by kernel_rfl, by kernel_rfl, by kernel_rfl, by kernel_rfl, by kernel_rfl, by kernel_rfl, by kernel_rfl⟩ (Lib.laidMet.reads h (.tail _ (.head _))) (Lib.laidMet.reads h (.head _))
theorem string_value {H : Type} {enc : TypeId × Value → H} {P : Program} {w : World} {base : Nat} {spare : Nat → Bool} {held : Bool} {r : Reach} {b0 : Nat} {t : TypeId} {v : Value} {d : DataW H} {p : List MemPlace} (ht : P.underlying t = some .string) (hv : Value.okWide P w r b0 t v) (h : DataW.Trod enc P w base spare held t v d p) :
    ∃ s : ByteArray, v = .string s ∧ s.size ≤ maxLen := by
  obtain ⟨s, rfl, _, _, hs⟩ := Go.ChangeMaps.open_string ht hv h
  exact ⟨s, rfl, hs⟩
end Go.Proofs.YteokeghenjobaaaGreatDoor
