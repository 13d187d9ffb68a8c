/- big.Append of a part, stroke.Size, stroke.Lay. -/
import Derived.Test.YtmnfikfncbppfaaSrJ
namespace Go.Proofs.Ytmnfikfncbppfaa
open Go.ChangeShapes Go.WideShapes Go.ChangeAt Go.RowKit
set_option linter.unusedSimpArgs false
set_option linter.unusedVariables false

attribute [local go_sem ↓] Go.wp_at_zero Go.wp_at_succ
theorem ptz_hi (a b : Nat) (ha : a < 256) (hb : b < 256) : IntKind.u8.wrap (ptz a b / 256) = (a : Int) := by
  rw [IntKind.wrap_u8]
  unfold ptz
  omega
theorem ptz_lo (a b : Nat) (ha : a < 256) (hb : b < 256) : IntKind.u8.wrap (ptz a b) = (b : Int) := by
  rw [IntKind.wrap_u8]
  unfold ptz
  omega
set_option maxRecDepth 100000 in
set_option maxHeartbeats 4000000 in
theorem bappz_any (a b : Nat) (base : Nat) (sv : Value) (m : Nat) (xs : List Nat) (w : World) (ha : a < 256) (hb : b < 256) (hown : w.ownsRow base 5 1 sv m (xs.map byteV)) (hbase : base ≤ w.heap.size) (hm : m ≤ 1000) :
    Calls Try.prog 21 #[sv, .int .i64 (ptz a b), .int .i64 2] w fun e' w' => ∃ sv', e' = .returned sv' ∧ w'.ownsRow base 5 1 sv' (m + 2) ((xs ++ [a, b]).map byteV) ∧ Below base w w' := by
  obtain ⟨z, hz⟩ : ∃ z, ptz a b = z := ⟨_, rfl⟩
  have hzb := ptz_bd a b
  have e1 := ptz_hi a b ha hb
  have e2 := ptz_lo a b ha hb
  rw [hz] at hzb e1 e2 ⊢
  obtain ⟨z1, z2⟩ := hzb
  clear hz ha hb
  go_enter Try.func21, Try.ntmps21
  go_wp2
  go_loopw [0, 7] (fun s i wr => ∃ k : Nat, k ≤ 2 ∧ i = .int .i64 (8 - 8 * (k : Int)) ∧ wr.ownsRow base 5 1 s (m + k) ((xs ++ [a, b].take k).map byteV) ∧ Below base w wr) (fun _ i _ => ((iOf i) + 8).toNat)
  case atStart => exact ⟨0, by omega, by go_num, by simpa using hown, Below.refl _ _⟩
  case round =>
    obtain ⟨k, hk, rfl, ho, hB⟩ := hrel
    rcases (by omega : k = 0 ∨ k = 1 ∨ k = 2) with rfl | rfl | rfl
    · rw [show (8 : Int) - 8 * ((0 : Nat) : Int) = 8 by decide]
      go_wp2_with (at_builtin; obtain ⟨ti0, hi, hz0, hz1, hz2⟩ := info_parts infoByte; refine wpList_app _ rfl (.tmp 15) (.tmp 20) 22 rfl base 5 ti0 _ 1 1 Try.underlying22 hi hz0 hz1 hz2 rfl (by decide) _ _ _ rfl (ho.alloc _) _ 1 _ [byteV a] rfl (Rd.one (by simp [byteV])) (by simp [byteV, Value.oneCell']) (by unfold maxLen; omega) (by omega) (by have := hB.size; simp; omega) ?_; intro s2 w2 ho2 hg2 hv2)
      go_roundw
      case rel => exact ⟨1, by omega, by go_num, by simpa using ho2, (hB.alloc (by have := hB.size; omega) _).trans (below_app (Nat.le_refl _) (by have := hB.size; simp; omega) (ho.alloc _) hg2)⟩
      case measure => simp [iOf]
    · rw [show (8 : Int) - 8 * ((1 : Nat) : Int) = 0 by decide]
      go_wp2_with (at_builtin; obtain ⟨ti0, hi, hz0, hz1, hz2⟩ := info_parts infoByte; refine wpList_app _ rfl (.tmp 15) (.tmp 20) 22 rfl base 5 ti0 _ 1 1 Try.underlying22 hi hz0 hz1 hz2 rfl (by decide) _ _ _ rfl (ho.alloc _) _ 1 _ [byteV b] rfl (Rd.one (by simp [byteV])) (by simp [byteV, Value.oneCell']) (by unfold maxLen; omega) (by omega) (by have := hB.size; simp; omega) ?_; intro s2 w2 ho2 hg2 hv2)
      go_roundw
      case rel => exact ⟨2, by omega, by go_num, by simpa using ho2, (hB.alloc (by have := hB.size; omega) _).trans (below_app (Nat.le_refl _) (by have := hB.size; simp; omega) (ho.alloc _) hg2)⟩
      case measure => simp [iOf]
    · rw [show (8 : Int) - 8 * ((2 : Nat) : Int) = -8 by decide]
      go_wp2
      go_ret
      exact ⟨_, rfl, by simpa using ho, hB⟩
theorem bappz_z (a b : Nat) (z : Int) (hz : Hid (ptz a b = z)) (base : Nat) (sv : Value) (m : Nat) (xs : List Nat) (w : World) (ha : a < 256) (hb : b < 256) (hown : w.ownsRow base 5 1 sv m (xs.map byteV)) (hbase : base ≤ w.heap.size) (hm : m ≤ 1000) :
    Calls Try.prog 21 #[sv, .int .i64 z, .int .i64 2] w fun e' w' => ∃ sv', e' = .returned sv' ∧ w'.ownsRow base 5 1 sv' (m + 2) ((xs ++ [a, b]).map byteV) ∧ Below base w w' := by
  rw [← hz.out]
  exact bappz_any a b base sv m xs w ha hb hown hbase hm
theorem stsB_len_take {ss : List St} {k : Nat} {s : St} (h : ss[k]? = some s) : (stsB (ss.take (k + 1))).length = (stsB (ss.take k)).length + 2 + 4 * s.2.length := by
  rw [stsB_take h, List.length_append, List.length_append, ptsB_len]
  simp
theorem stsB_len_le : ∀ {ss : List St}, (∀ s ∈ ss, s.2.length ≤ 10) → (stsB ss).length ≤ 42 * ss.length
  | [], _ => by simp [stsB]
  | s :: ss, h => by
    have h1 := h s (by simp)
    have h2 := stsB_len_le (ss := ss) (fun x hx => h x (by simp [hx]))
    rw [stsB_cons]
    simp only [List.length_cons, List.length_append, ptsB_len]
    omega
set_option maxRecDepth 100000 in
set_option maxHeartbeats 4000000 in
theorem ssize_any (es : List (St × Value)) (n : Nat) (A : Option Addr) (c : Nat) (w : World) (hn : es.length = n) (h : ShV w w.heap.size A es) (hm : mayS (es.map Prod.fst) = true) :
    Calls Try.prog 16 #[.slice A n c] w fun e' w' => e' = .returned (.int .i64 ((layB (es.map Prod.fst)).length : Int)) ∧ Below w.heap.size w w' := by
  have hn6 : n ≤ 6 := by have := mayS_len hm; rw [List.length_map, hn] at this; exact this
  have hT : ∀ e ∈ es, mayT e.1 = true := fun e he => mayS_all hm e.1 (List.mem_map_of_mem he)
  have hcall := smay_any es n A c w hn h (fun e he => by have := (mayT_bd (hT e he)).2.2.2.2; omega) (by omega)
  rw [hm] at hcall
  have HT := Lib.hid hT
  have HN := Lib.hid hn
  clear hm hT hn
  go_enter Try.func16, Try.ntmps16
  go_wp2_with (go_at_call 18; ((with_reducible refine (hcall).mono ?_); rintro e' w1 ⟨rfl, hb1⟩))
  clear hcall
  go_loopw [3, 11] (fun s3 s11 wr => ∃ (i z : Nat), i ≤ n ∧ s11 = .int .i64 (i : Int) ∧ s3 = .int .i64 (z : Int) ∧ Hid (z = 1 + (stsB ((es.map Prod.fst).take i)).length) ∧ z ≤ 1 + 42 * i ∧ Below w.heap.size w wr) (fun _ s11 _ => n - (iOf s11).toNat)
  case atStart => exact ⟨0, 1, Nat.zero_le _, rfl, rfl, Lib.hid (by simp [stsB]), by omega, hb1⟩
  case round =>
    obtain ⟨i, z, hi, rfl, rfl, HZ, hz, hB⟩ := hrel
    by_cases hlt : i < n
    · skip
      obtain ⟨b1, o1, rfl, lt1, q1⟩ := h.at_ (by rw [HN.out]; omega)
      obtain ⟨e, he⟩ : ∃ e, es[i]? = some e := ⟨_, List.getElem?_eq_getElem (by rw [HN.out]; exact hlt)⟩
      obtain ⟨x0w, x1w, x2w⟩ := q1 i e he
      have hmem : e ∈ es := List.mem_of_getElem? he
      have hs : (es.map Prod.fst)[i]? = some e.1 := by rw [List.getElem?_map, he]; rfl
      have hTe := mayT_bd (HT.out e hmem)
      obtain ⟨⟨hh, ps⟩, qv⟩ := e
      obtain ⟨A1, c1, e1, sP⟩ := h.2 _ hmem
      dsimp only at e1 x0w x1w x2w sP hTe
      subst e1
      obtain ⟨m, hm⟩ : ∃ m, ps.length = m := ⟨_, rfl⟩
      rw [hm] at x2w hTe
      have HM := Lib.hid hm
      have HS := Lib.hid hs
      obtain ⟨t1, t2, t3, t4, t5⟩ := hTe
      obtain ⟨P, hP⟩ : ∃ P, ((hh / 16 : Nat) : Int) = P := ⟨_, rfl⟩
      obtain ⟨R, hR⟩ : ∃ R, ((hh % 16 : Nat) : Int) = R := ⟨_, rfl⟩
      have p1 : 0 ≤ P := by omega
      have p2 : P ≤ 7 := by omega
      have p3 : 1 ≤ R := by omega
      have p4 : R ≤ 9 := by omega
      have HPR := Lib.hid (And.intro hP hR)
      rw [hP] at x0w
      rw [hR] at x1w
      have x0 := (hB.cell (p := ⟨b1, o1 + i * 3, none⟩) lt1).trans x0w
      have x1 := (hB.cell (p := ⟨b1, o1 + i * 3 + 1, none⟩) lt1).trans x1w
      have x2 := (hB.cell (p := ⟨b1, o1 + i * 3 + 2, none⟩) lt1).trans x2w
      have i0 : (0 : Int) ≤ (i : Int) := by omega
      have i9 : (i : Int) < (n : Int) := by omega
      have m0 : (0 : Int) ≤ (m : Int) := by omega
      have m9 : (m : Int) ≤ 10 := by omega
      have z0 : (0 : Int) ≤ (z : Int) := by omega
      have z9 : (z : Int) ≤ 300 := by omega
      clear q1 he hmem hs hm t1 t2 t3 t4 hP hR
      go_wp2
      go_roundw
      case rel => exact ⟨i + 1, z + (2 + 4 * m), by omega, by go_num, by go_num, Lib.hid (by rw [stsB_len_take HS.out, HZ.out]; have := HM.out; dsimp only; omega), by omega, hB.alloc hB.size _⟩
      case measure => simp [iOf]; omega
    · have hin : i = n := by omega
      subst hin
      go_wp2
      go_ret
      refine ⟨?_, hB⟩
      rw [HZ.out, List.take_of_length_le (by rw [List.length_map, HN.out]; omega)]
      unfold layB
      rw [List.length_cons, Nat.add_comm]
      rfl
theorem blk_new {w : World} {t : TypeId} {cs : Array Value} {g : Nat} (hg : g = w.heap.size) : Blk (w.alloc (.cells cs t)) g t cs := by
  subst hg
  exact Blk.new_ _ _ _
theorem below_grown_none {w w' : World} (h : w.grownBy w' none) : Below w.heap.size w w' := (Below.refl _ _).grown h (Nat.le_refl _) (fun j hj => by cases hj)
set_option maxRecDepth 100000 in
set_option maxHeartbeats 4000000 in
theorem slay_ok (es : List (St × Value)) (n : Nat) (A : Option Addr) (c : Nat) (w : World) (hn : es.length = n) (h : ShV w w.heap.size A es) (hm : mayS (es.map Prod.fst) = true) (hok : ∀ e ∈ es, StOk e.1) :
    Calls Try.prog 12 #[.slice A n c] w fun e' w' => (∃ v, e' = .returned (.tuple #[v, .int .i64 0]) ∧ w'.ownsRow w.heap.size 5 1 v (layB (es.map Prod.fst)).length ((layB (es.map Prod.fst)).map byteV)) ∧ Below w.heap.size w w' := by
  have hn6 : n ≤ 6 := by have := mayS_len hm; rw [List.length_map, hn] at this; exact this
  have hT : ∀ e ∈ es, mayT e.1 = true := fun e he => mayS_all hm e.1 (List.mem_map_of_mem he)
  have hcall := smay_any es n A c w hn h (fun e he => by have := (mayT_bd (hT e he)).2.2.2.2; omega) (by omega)
  rw [hm] at hcall
  obtain ⟨L, hL⟩ : ∃ L, (layB (es.map Prod.fst)).length = L := ⟨_, rfl⟩
  have hL3 : L ≤ 300 := by
    rw [← hL]
    unfold layB
    rw [List.length_cons]
    have := stsB_len_le (ss := es.map Prod.fst) (fun s hs => by obtain ⟨e, he, rfl⟩ := List.mem_map.1 hs; exact (mayT_bd (hT e he)).2.2.2.2)
    rw [List.length_map, hn] at this
    omega
  have hsize : ∀ W, Below w.heap.size w W → Calls Try.prog 16 #[.slice A n c] W fun e' w' => e' = .returned (.int .i64 (L : Int)) ∧ Below W.heap.size W w' := fun W hW => by
    have := ssize_any es n A c W hn (h.next hW) hm
    rw [hL] at this
    exact this
  have HT := Lib.hid hT
  have HN := Lib.hid hn
  have HLL := Lib.hid hL
  have HOK := Lib.hid hok
  have l0 : (0 : Int) ≤ (L : Int) := by omega
  have l1 : (L : Int) ≤ 300 := by omega
  have e0 : IntKind.u8.wrap (n : Int) = (n : Int) := by rw [IntKind.wrap_u8]; omega
  clear hm hT hn hL hok
  go_enter Try.func12, Try.ntmps12
  go_wp2_with (first | (go_at_call 18; ((with_reducible refine (hcall).mono ?_); rintro e' w1 ⟨rfl, hb1⟩)) | (go_at_call 16; ((with_reducible refine (hsize _ hb1).mono ?_); rintro e' w2 ⟨rfl, hb2⟩; have hb3 := btr hb1 hb1.size hb2)) | (at_make; obtain ⟨ti0, hi, hz0, hz1, hz2⟩ := info_parts infoByte; refine wpList_make_own _ rfl _ _ 22 rfl w2.heap.size 5 ti0 (.int .u8 0) 1 Try.underlying22 hi hz0 hz1 _ _ _ L rfl rfl rfl (by rw [hz2]; omega) (by unfold maxLen; omega) (Nat.le_refl _) ?_; intro w3 ho3 hg3; clear hi hz0 hz1 hz2; have hb4 := hb3.trans ((below_grown_none hg3).mono hb3.size); have ho4 := own_base ho3 hb3.size; clear ho3 hg3) | (at_builtin; obtain ⟨ti0, hi, hz0, hz1, hz2⟩ := info_parts infoByte; refine wpList_app _ rfl (.tmp 15) (.tmp 19) 22 rfl w.heap.size 5 ti0 _ 1 1 Try.underlying22 hi hz0 hz1 hz2 rfl (by decide) _ 0 [] rfl (ho4.alloc _) _ 1 _ [byteV n] rfl (Rd.one (by simp [byteV])) (by simp [byteV, Value.oneCell']) (by unfold maxLen; omega) (by omega) (by have := hb4.size; simp; omega) ?_; intro v5 w5 ho5 hg5 hv5))
  have hB5 : Below w.heap.size w w5 := (hb4.alloc hb4.size _).trans (below_gr hg5 (ho4.alloc _) (Nat.le_refl _) (by have := hb4.size; simp; omega))
  clear hv5 hg5 ho4 hcall hsize
  go_loopw [4, 23] (fun s4 s23 wr => ∃ (i N : Nat) (v : Value) (bs : List Nat), i ≤ n ∧ s23 = .int .i64 (i : Int) ∧ s4 = v ∧ Hid (bs = n :: stsB ((es.map Prod.fst).take i)) ∧ wr.ownsRow w.heap.size 5 1 v N (bs.map byteV) ∧ N ≤ 1 + 42 * i ∧ Below w.heap.size w wr) (fun _ s23 _ => n - (iOf s23).toNat)
  case atStart => exact ⟨0, 1, _, [n], Nat.zero_le _, rfl, rfl, Lib.hid (by simp [stsB]), ho5, by omega, hB5⟩
  case round =>
    obtain ⟨i, N, v, bs, hi, rfl, e4, HBS, HRW, hN, hB⟩ := hrel
    have e4' := e4.symm
    subst e4'
    by_cases hlt : i < n
    · skip
      obtain ⟨b1, o1, rfl, lt1, q1⟩ := h.at_ (by rw [HN.out]; omega)
      obtain ⟨e, he⟩ : ∃ e, es[i]? = some e := ⟨_, List.getElem?_eq_getElem (by rw [HN.out]; exact hlt)⟩
      obtain ⟨x0w, x1w, x2w⟩ := q1 i e he
      have hmem : e ∈ es := List.mem_of_getElem? he
      have hs : (es.map Prod.fst)[i]? = some e.1 := by rw [List.getElem?_map, he]; rfl
      have hOe := HOK.out e hmem
      have hTe := mayT_bd (HT.out e hmem)
      obtain ⟨⟨hh, ps⟩, qv⟩ := e
      obtain ⟨A1, c1, e1, sP⟩ := h.2 _ hmem
      dsimp only at e1 x0w x1w x2w sP hTe hOe
      subst e1
      obtain ⟨m, hm⟩ : ∃ m, ps.length = m := ⟨_, rfl⟩
      rw [hm] at x2w hTe
      have HM := Lib.hid hm
      have HS := Lib.hid hs
      obtain ⟨t1, t2, t3, t4, t5⟩ := hTe
      obtain ⟨P, hP⟩ : ∃ P, ((hh / 16 : Nat) : Int) = P := ⟨_, rfl⟩
      obtain ⟨R, hR⟩ : ∃ R, ((hh % 16 : Nat) : Int) = R := ⟨_, rfl⟩
      have p1 : 0 ≤ P := by omega
      have p2 : P ≤ 7 := by omega
      have p3 : 1 ≤ R := by omega
      have p4 : R ≤ 9 := by omega
      have HPR := Lib.hid (And.intro hP hR)
      rw [hP] at x0w
      rw [hR] at x1w
      have x0 := (hB.cell (p := ⟨b1, o1 + i * 3, none⟩) lt1).trans x0w
      have x1 := (hB.cell (p := ⟨b1, o1 + i * 3 + 1, none⟩) lt1).trans x1w
      have x2 := (hB.cell (p := ⟨b1, o1 + i * 3 + 2, none⟩) lt1).trans x2w
      have HPO := Lib.hid hOe.2
      have e1 := byte_hd hh hOe.1
      rw [hP, hR] at e1
      have e2 : IntKind.u8.wrap (m : Int) = (m : Int) := by rw [IntKind.wrap_u8]; omega
      have i0 : (0 : Int) ≤ (i : Int) := by omega
      have i9 : (i : Int) < (n : Int) := by omega
      have i8 : N + 2 ≤ 300 := by omega
      have HXX : ∀ (o : Obj) (w6 : World), ((wr.alloc (.cells #[.int .i64 P, .int .i64 R, .slice A1 m c1] 44)).alloc o).grownBy w6 v.ownBlock → Blk w6 wr.heap.size 44 #[.int .i64 P, .int .i64 R, .slice A1 m c1] := fun o w6 hg => (hg.block _ (by simp; omega) (fun hc => own_ne HRW (Nat.le_refl _) hc.symm)).trans ((Blk.new_ wr 44 #[.int .i64 P, .int .i64 R, .slice A1 m c1]).alloc_ o)
      clear q1 he hmem hs hm t1 t2 t3 t4 hP hR hOe
      go_wp2_with (at_builtin; obtain ⟨ti0, hi, hz0, hz1, hz2⟩ := info_parts infoByte; refine wpList_app _ rfl (.tmp 27) (.tmp 39) 22 rfl w.heap.size 5 ti0 _ 1 1 Try.underlying22 hi hz0 hz1 hz2 rfl (by decide) v N (bs.map byteV) rfl ((HRW.alloc _).alloc _) _ 2 2 [byteV hh, byteV m] rfl (rd_blk (blk_new (by simp))) (by intro u hu; simp at hu; rcases hu with rfl | rfl <;> rfl) (by unfold maxLen; omega) (by omega) (by have := hB.size; simp; omega) ?_; intro v6 w6 ho6 hg6 hv6; have HX6 := HXX _ _ hg6; have y2 := HX6.cell_ 2; simp at y2; clear hi hz0 hz1 hz2)
      have hBX : Below w.heap.size w w6 := ((hB.alloc hB.size _).alloc (by have := hB.size; simp; omega) _).trans (below_gr hg6 ((HRW.alloc _).alloc _) (Nat.le_refl _) (by have := hB.size; simp; omega))
      have hRX : w6.ownsRow w.heap.size 5 1 v6 (N + 2) ((bs ++ [hh, m]).map byteV) := by rw [List.map_append]; exact ho6
      clear ho6 hg6 hv6 HX6 y2 HRW HXX x0 x1 x2
      go_loopw [4, 44] (fun s4 s44 wy => ∃ (k N2 : Nat) (v3 : Value) (bs3 : List Nat), k ≤ m ∧ s44 = .int .i64 (k : Int) ∧ s4 = v3 ∧ Hid (bs3 = bs ++ [hh, m] ++ ptsB (ps.take k)) ∧ wy.ownsRow w.heap.size 5 1 v3 N2 (bs3.map byteV) ∧ N2 ≤ N + 2 + 4 * k ∧ Below w.heap.size w wy) (fun _ s44 _ => m - (iOf s44).toNat)
      case atStart => exact ⟨0, N + 2, v6, bs ++ [hh, m], Nat.zero_le _, rfl, rfl, Lib.hid (by simp [ptsB]), hRX, by omega, hBX⟩
      case round =>
        obtain ⟨k, N2, v3, bs3, hk, rfl, e43, HB3, HR3, hN2, hB2⟩ := hrel
        have e43' := e43.symm
        subst e43'
        by_cases hlk : k < m
        · obtain ⟨b3, o3, rfl, lt3, q3⟩ := sP.at_ (by rw [List.length_map, HM.out]; omega)
          obtain ⟨p, hp⟩ : ∃ p, ps[k]? = some p := ⟨_, List.getElem?_eq_getElem (by rw [HM.out]; exact hlk)⟩
          have hpo := HPO.out p (List.mem_of_getElem? hp)
          have HPT : Hid (ptsB (ps.take (k + 1)) = ptsB (ps.take k) ++ [p.1, p.2.1] ++ [p.2.2.1, p.2.2.2]) := Lib.hid (ptsB_take hp)
          have z0w := q3 k (ptV p) (by simp [hp])
          obtain ⟨pa, pb, pc, pd⟩ := p
          unfold ptV at z0w
          dsimp only at z0w hpo
          obtain ⟨a8, b8, c8, d8⟩ := hpo
          obtain ⟨Z1, hZ1⟩ : ∃ z, ptz pa pb = z := ⟨_, rfl⟩
          obtain ⟨Z2, hZ2⟩ : ∃ z, ptz pc pd = z := ⟨_, rfl⟩
          have g1 := ptz_sm pa pb
          have g2 := ptz_sm pc pd
          rw [hZ1, hZ2] at z0w
          rw [hZ1] at g1
          rw [hZ2] at g2
          have hcv1 := fun W => run_convert_float_int (P := Try.prog) W 47 3 .f64 .i64 (F Z1) Z1 (by rfl) (by rfl) (toInt_F Z1 g1)
          have hcv2 := fun W => run_convert_float_int (P := Try.prog) W 47 3 .f64 .i64 (F Z2) Z2 (by rfl) (by rfl) (toInt_F Z2 g2)
          have z0 := (hB2.cell (p := ⟨b3, o3 + k, none⟩) lt3).trans z0w
          have HZ1 := Lib.hid hZ1
          have HZ2 := Lib.hid hZ2
          have k3 : N2 ≤ 1000 := by omega
          have k0 : (0 : Int) ≤ (k : Int) := by omega
          have k1 : (k : Int) < (m : Int) := by omega
          have k2 : N2 + 2 ≤ 1000 := by omega
          clear q3 hp z0w hZ1 hZ2 g1 g2
          go_wp2_with (first | (go_at_call 21; ((with_reducible refine (bappz_z pa pb Z1 HZ1 w.heap.size v3 N2 bs3 _ a8 b8 HR3 hB2.size k3).mono ?_); rintro e' wQ ⟨sv1, rfl, ho1, hq1⟩; have HQB := hB2.trans hq1; clear hq1)) | (go_at_call 21; ((with_reducible refine (bappz_z pc pd Z2 HZ2 w.heap.size sv1 (N2 + 2) (bs3 ++ [pa, pb]) _ c8 d8 ho1 HQB.size k2).mono ?_); rintro e' wQ2 ⟨sv2, rfl, ho2, hq2⟩; have HQB2 := HQB.trans hq2; clear hq2)))
          go_roundw
          case rel => exact ⟨k + 1, N2 + 2 + 2, sv2, bs3 ++ [pa, pb] ++ [pc, pd], by omega, by go_num, rfl, Lib.hid (by rw [HB3.out, HPT.out]; simp), ho2, by omega, HQB2⟩
          case measure => simp [iOf]; omega
        · have hkm : k = m := by omega
          subst hkm
          go_wp2
          go_roundw
          case rel => exact ⟨i + 1, N2, v3, bs3, by omega, by go_num, rfl, Lib.hid (by rw [HB3.out, List.take_of_length_le (l := ps) (by rw [HM.out]; omega), HBS.out, stsB_take HS.out]; dsimp only; rw [HM.out]; simp), HR3, by omega, hB2⟩
          case measure => simp [iOf]; omega
    · have hin : i = n := by omega
      subst hin
      have HL : Hid (layB (es.map Prod.fst) = bs) := Lib.hid (by rw [HBS.out, List.take_of_length_le (by rw [List.length_map, HN.out]; omega)]; unfold layB; rw [List.length_map, HN.out])
      go_wp2
      go_ret2
      refine ⟨⟨v, rfl, ?_⟩, hB⟩
      have hl := HRW.1
      rw [HL.out]
      rw [List.length_map] at hl
      rw [show bs.length = N by omega]
      exact HRW
end Go.Proofs.Ytmnfikfncbppfaa
