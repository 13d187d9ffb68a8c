/- tag.Lay: what it lays, by contracts. -/
import Derived.Test.YtjmochkhdapmiaaTagB
import Derived.Test.YtjmochkhdapmiaaApp
import Derived.Test.YtjmochkhdapmiaaLendB
import Derived.Test.YtjmochkhdapmiaaSl2
import Derived.Deep.RegionHeld3
import Derived.Deep.DrawnRows
import Derived.Deep.DeepCutAuto
namespace Go.Proofs.Ytjmochkhdapmiaa
open Go.ChangeShapes Go.WideShapes Go.ChangeAt Go.RowKit
attribute [local go_sem ↓] Go.wp_at_zero Go.wp_at_succ
set_option linter.unusedSimpArgs false
set_option linter.unusedVariables false

/-- What is summed of a raw page, and the raw page. -/
def bodyB (data : List Nat) (k p s e : Nat) : List Nat := (((data ++ [74, k]) ++ beB p 2) ++ beB s 4) ++ beB e 3
def rawB (data : List Nat) (k p s e : Nat) : List Nat := (bodyB data k p s e ++ beB (crcMore 0 (bodyB data k p s e)) 4) ++ [0]

theorem bodyB_len (data : List Nat) (k p s e : Nat) : (bodyB data k p s e).length = data.length + 11 := by simp [bodyB, beB_len]
theorem rawB_len (data : List Nat) (k p s e : Nat) : (rawB data k p s e).length = data.length + 16 := by simp [rawB, bodyB_len, beB_len]
theorem bodyB_8 {data : List Nat} {k p s e : Nat} (hd : Bytes8 data) (hk : k < 256) : Bytes8 (bodyB data k p s e) := by
  intro b hb
  simp only [bodyB, List.mem_append, List.mem_cons, List.not_mem_nil, or_false] at hb
  rcases hb with (((h | h) | h) | h) | h
  · exact hd b h
  · omega
  · exact beB_8 _ _ b h
  · exact beB_8 _ _ b h
  · exact beB_8 _ _ b h
theorem rawB_8 {data : List Nat} {k p s e : Nat} (hd : Bytes8 data) (hk : k < 256) : Bytes8 (rawB data k p s e) := by
  intro b hb
  simp only [rawB, List.mem_append, List.mem_cons, List.not_mem_nil, or_false] at hb
  rcases hb with (h | h) | h
  · exact bodyB_8 hd hk b h
  · exact beB_8 _ _ b h
  · omega

/-- A row of the call's own that holds bytes. -/
theorem own_slice {w : World} {base : Nat} {e : TypeId} {v : Value} {n : Nat} {bs : List Nat} (h : w.ownsRow base e 1 v n (bs.map byteV)) : ∃ (A : Option Addr) (c : Nat), v = .slice A n c ∧ bs.length = n ∧ n ≤ c ∧ c ≤ maxLen ∧ (A = none → n = 0 ∧ c = 0) ∧ Sl w w.heap.size A (bs.map byteV) := by
  have hl : bs.length = n := by
    have := h.1
    simp at this
    omega
  rcases h.2 with ⟨hv, h0⟩ | ⟨g, cap, cur, hv, hbg, hh, hnc, hm, hsz, ht⟩
  · subst h0
    exact ⟨none, 0, hv, hl, Nat.le_refl _, by unfold maxLen; omega, fun _ => ⟨rfl, rfl⟩, Or.inl (by rw [List.eq_nil_of_length_eq_zero hl]; rfl)⟩
  · subst hv
    exact ⟨some ⟨g, 0, none⟩, cap, rfl, hl, hnc, hm, by simp, Sl.of_own h⟩
theorem own_mono {w : World} {base base' : Nat} {e : TypeId} {size n : Nat} {v : Value} {xs : List Value} (h : w.ownsRow base e size v n xs) (hb : base' ≤ base) : w.ownsRow base' e size v n xs := by
  obtain ⟨hl, h⟩ := h
  rcases h with h | ⟨g, cap, cur, hv, hbg, hr⟩
  · exact ⟨hl, Or.inl h⟩
  · exact ⟨hl, Or.inr ⟨g, cap, cur, hv, by omega, hr⟩⟩
theorem own_len {w : World} {base : Nat} {e : TypeId} {size n m : Nat} {v : Value} {xs : List Value} (h : n = m) (ho : w.ownsRow base e size v n xs) : w.ownsRow base e size v m xs := by rw [← h]; exact ho
theorem crcOf_len (bs : List Nat) (n : Nat) (hn : bs.length = n) (A : Option Addr) (c : Nat) (w : World) (h1 : Sl w w.heap.size A (bs.map byteV)) (h8 : Bytes8 bs) (n1 : bs.length ≤ 1000000000) :
    Calls Try.prog 25 #[.slice A n c] w fun e w' => e = .returned (.int .u32 (crcMore 0 bs)) ∧ w = w' := by
  subst hn
  exact (crcOf_any bs A c w h1 h8 n1).mono fun e w' h => ⟨h.1, h.2.symm⟩
theorem Rd.list {w : World} {g : Nat} {t : TypeId} {vs : List Value} (h : Blk w g t vs.toArray) {m : Nat} (hm : vs.length = m) : Rd w (some ⟨g, 0, none⟩) m 1 vs := by
  refine ⟨by omega, Or.inr ⟨g, 0, rfl, fun j u hj => ?_⟩⟩
  rw [Nat.zero_add, h.cell_ j]
  simpa using hj

theorem bapp_n (v : Nat) (n : Nat) (N : Int) (hN : (n : Int) = N) (base : Nat) (sv : Value) (m : Nat) (xs : List Nat) (w : World) (hv : v < 4294967296) (hn1 : 1 ≤ n) (hn : n ≤ 4) (hown : w.ownsRow base 5 1 sv m (xs.map byteV)) (hbase : base ≤ w.heap.size) (hm : m ≤ 1000) :
    Calls Try.prog 24 #[sv, .int .i64 v, .int .i64 N] w fun e w' =>
      ∃ sv', e = .returned sv' ∧ w'.ownsRow base 5 1 sv' (m + n) ((xs ++ beB v n).map byteV) ∧ Below base w w' ∧ (sv'.ownBlock = sv.ownBlock ∨ ∃ g, sv'.ownBlock = some g ∧ w.heap.size ≤ g) := by
  subst hN
  exact bapp_any v n base sv m xs w hv hn1 hn hown hbase hm

theorem rnum_n (v : Nat) (n : Nat) (N : Int) (hN : (n : Int) = N) (base : Nat) (sv : Value) (m : Nat) (xs : List Nat) (w : World) (hv : v < 4294967296) (hn1 : 1 ≤ n) (hn : n ≤ 4) (hown : w.ownsRow base 5 1 sv m (xs.map byteV)) (hbase : base ≤ w.heap.size) (hm : m ≤ 1000) :
    Calls Try.prog 26 #[sv, .int .i64 v, .int .i64 N] w fun e w' =>
      ∃ sv', e = .returned sv' ∧ w'.ownsRow base 5 1 sv' (m + n) ((xs ++ beB v n).map byteV) ∧ Below base w w' ∧ (sv'.ownBlock = sv.ownBlock ∨ ∃ g, sv'.ownBlock = some g ∧ w.heap.size ≤ g) := by
  subst hN
  exact rnum_any v n base sv m xs w hv hn1 hn hown hbase hm

/-- What cannot be laid is refused. -/
theorem lay_no (data : List Nat) (A : Option Addr) (c : Nat) (k p s e : Int) (w : World) (hno : mayDataB data.length = false ∨ tagB k p s e = false) (n1 : data.length ≤ 1000000) :
    Calls Try.prog 11 #[.slice A data.length c, .agg #[.int .i64 k, .int .i64 p, .int .i64 s, .int .i64 e]] w fun e' w' => e' = .returned (.tuple #[.slice none 0 0, .int .i64 2]) ∧ Below w.heap.size w w' := by
  rcases (by cases hq : mayDataB data.length <;> simp : mayDataB data.length = false ∨ mayDataB data.length = true) with hd | hd
  · have HD := Lib.hid hd
    clear hd hno
    go_enter Try.func11, Try.ntmps11
    go_wp2_with (go_at_call 23; refine (mayData_any _ _).mono ?_; rw [HD.out]; rintro e' w' ⟨rfl, rfl⟩)
    go_ret2
    exact ⟨rfl, (Below.refl _ _).alloc (Nat.le_refl _) _⟩
  · have ht : tagB k p s e = false := by
      rcases hno with h | h
      · rw [hd] at h
        cases h
      · exact h
    have HD := Lib.hid hd
    have HT := Lib.hid ht
    clear hd hno ht
    go_enter Try.func11, Try.ntmps11
    go_wp2_with (first | (go_at_call 23; refine (mayData_any _ _).mono ?_; rw [HD.out]; rintro e' w' ⟨rfl, rfl⟩) | (go_at_call 15; refine (tmay_any _ _ _ _ _).mono ?_; rw [HT.out]; rintro e' w1 ⟨rfl, hb1⟩))
    go_ret2
    exact ⟨rfl, below1 hb1⟩

set_option maxRecDepth 100000 in
set_option maxHeartbeats 8000000 in
theorem lay_yes (data : List Nat) (A : Option Addr) (c : Nat) (k p s e : Nat) (w : World) (h1 : Sl w w.heap.size A (data.map byteV)) (h8 : Bytes8 data) (hd1 : 24 ≤ data.length) (hd2 : data.length ≤ 64)
    (hk1 : 1 ≤ k) (hk2 : k ≤ 3) (hkp : k = 3 → p = 0) (hp : p < 65536) (hs : s < 4294967296) (he : e < 16777216) :
    Calls Try.prog 11 #[.slice A data.length c, .agg #[.int .i64 k, .int .i64 p, .int .i64 s, .int .i64 e]] w fun e' w' => ∃ sv, e' = .returned (.tuple #[sv, .int .i64 0]) ∧ w'.ownsRow (w.heap.size + 1) 5 1 sv (data.length + 16) ((rawB data k p s e).map byteV) ∧ Below w.heap.size w w' := by
  have hd : mayDataB data.length = true := by unfold mayDataB; simp; omega
  have ht : tagB k p s e = true := tagB_iff.2 (by omega)
  have HD := Lib.hid hd
  have HT := Lib.hid ht
  have HKP := Lib.hid hkp
  have hG0 : Blk (w.alloc (.cells #[.int .i64 k, .int .i64 p, .int .i64 s, .int .i64 e] 24)) w.heap.size 24 #[.int .i64 k, .int .i64 p, .int .i64 s, .int .i64 e] := Blk.new_ w _ _
  have h0 := h1.next ((Below.refl _ _).alloc (Nat.le_refl _) (.cells #[.int .i64 k, .int .i64 p, .int .i64 s, .int .i64 e] 24))
  have hK : (1 : Int) ≤ (k : Int) := by omega
  have hK2 : (k : Int) ≤ 3 := by omega
  have he4 : e < 4294967296 := by omega
  have hp4 : p < 4294967296 := by omega
  have hcrc : crcMore 0 (bodyB data k p s e) < 4294967296 := crcMore_lt (by omega)
  have hb8 : Hid (Bytes8 (bodyB data k p s e)) := Lib.hid (bodyB_8 h8 (by omega))
  have hbl : Hid ((bodyB data k p s e).length = data.length + 11) := Lib.hid (bodyB_len _ _ _ _ _)
  obtain ⟨B, hB⟩ : ∃ B, bodyB data k p s e = B := ⟨_, rfl⟩
  have HBB := Lib.hid hB
  have hraw : (rawB data k p s e) = (B ++ beB (crcMore 0 B) 4) ++ [0] := by unfold rawB; rw [hB]
  rw [hraw]
  rw [hB] at hcrc hb8 hbl
  clear hd ht hkp hB hraw
  obtain ⟨i0, hi, hz0, hz1, hz2⟩ := info_parts infoByte
  go_enter Try.func11, Try.ntmps11
  go_wp2_with (first
    | (go_at_call 23; refine (mayData_any _ _).mono ?_; rw [HD.out]; rintro e' w' ⟨rfl, rfl⟩)
    | (go_at_call 15; refine (tmay_any _ _ _ _ _).mono ?_; rw [HT.out]; rintro e' w1 ⟨rfl, hb1⟩; have H1 := h0.next hb1; have HG1 := hG0.below hb1 (by simp); have HB1 := below1 hb1; have hzb : w.heap.size < w1.heap.size := (by { have := hb1.size; simp at this; omega }); clear hb1 h0 hG0)
    | (at_make; refine wpList_make_own _ rfl _ _ 22 rfl w1.heap.size 5 i0 _ 1 Try.underlying22 hi hz0 hz1 .i64 .i64 _ (data.length + 16) rfl rfl (by push_cast; rfl) (by rw [hz2]; omega) (by unfold maxLen; omega) (Nat.le_refl _) ?_; intro w2 ho0 hg2; have HX : Below w1.heap.size w1 w2 := (Below.refl _ _).grown hg2 (Nat.le_refl _) (fun k h => by cases h))
    | (at_builtin; refine wpList_app _ rfl (.tmp 20) (.tmp 21) _ rfl w1.heap.size 5 i0 _ 1 1 Try.underlying22 hi hz0 hz1 hz2 rfl (by decide) _ _ _ rfl ho0 _ data.length _ (data.map byteV) rfl (Rd.of_sl (H1.below HX) (by simp)) (oneB data) (by unfold maxLen; omega) (by omega) (by have := HX.size; first | omega | (simp; omega)) ?_; intro s3 w3 ho1 hg3 _; have HX := HX.trans (below_app (Nat.le_refl _) HX.size ho0 hg3); have y0 := (HG1.below HX hzb).cell_ 0; have y1 := (HG1.below HX hzb).cell_ 1; have y2 := (HG1.below HX hzb).cell_ 2; have y3 := (HG1.below HX hzb).cell_ 3; simp at y0 y1 y2 y3)
    | (at_builtin; refine wpList_app _ rfl (.tmp 23) (.tmp 27) _ rfl w1.heap.size 5 i0 _ 1 1 Try.underlying22 hi hz0 hz1 hz2 rfl (by decide) _ _ _ rfl (ho1.alloc _) _ 2 _ ([74, k].map byteV) rfl (Rd.list (vs := [74, k].map byteV) (Blk.new_ _ _ _) rfl) (oneB [74, k]) (by unfold maxLen; omega) (by omega) (by have := HX.size; first | omega | (simp; omega)) ?_; intro s4 w4 ho2 hg4 _; have HX := (HX.alloc HX.size _).trans (below_app (Nat.le_refl _) (by simp; have := HX.size; omega) (ho1.alloc _) hg4); clear y0 y1 y2 y3; have y0 := (HG1.below HX hzb).cell_ 0; have y1 := (HG1.below HX hzb).cell_ 1; have y2 := (HG1.below HX hzb).cell_ 2; have y3 := (HG1.below HX hzb).cell_ 3; simp at y0 y1 y2 y3)
    | (go_at_call 24; ((with_reducible refine (bapp_n p 2 2 rfl w1.heap.size _ (data.length + 2) (data ++ [74, k]) _ hp4 (by omega) (by omega) (by simpa using ho2) HX.size (by omega)).mono ?_); rintro e' w5 ⟨s5, rfl, ho3, hb5, _⟩; have HX := HX.trans hb5; clear y0 y1 y2 y3; have y0 := (HG1.below HX hzb).cell_ 0; have y1 := (HG1.below HX hzb).cell_ 1; have y2 := (HG1.below HX hzb).cell_ 2; have y3 := (HG1.below HX hzb).cell_ 3; simp at y0 y1 y2 y3))
    | (go_at_call 24; ((with_reducible refine (bapp_n s 4 4 rfl w1.heap.size _ _ _ _ hs (by omega) (by omega) ho3 HX.size (by omega)).mono ?_); rintro e' w6 ⟨s6, rfl, ho4, hb6, _⟩; have HX := HX.trans hb6; clear y0 y1 y2 y3; have y0 := (HG1.below HX hzb).cell_ 0; have y1 := (HG1.below HX hzb).cell_ 1; have y2 := (HG1.below HX hzb).cell_ 2; have y3 := (HG1.below HX hzb).cell_ 3; simp at y0 y1 y2 y3))
    | (go_at_call 24; ((with_reducible refine (bapp_n e 3 3 rfl w1.heap.size _ _ _ _ he4 (by omega) (by omega) ho4 HX.size (by omega)).mono ?_); rintro e' w7 ⟨s7, rfl, ho5, hb7, _⟩; have HX := HX.trans hb7; clear y0 y1 y2 y3; rw [show (((data ++ [74, k]) ++ beB p 2) ++ beB s 4) ++ beB e 3 = B from HBB.out] at ho5; obtain ⟨A5, c5, rfl, hl5, hc5, hc6, hA5, H5⟩ := own_slice ho5; have HL5 := Lib.hid hl5; have HA5 := Lib.hid hA5; clear hl5 hc5 hc6 hA5))
    | (go_at_call 25; refine (crcOf_len B _ HL5.out _ _ _ H5 hb8.out (by have := hbl.out; omega)).mono ?_; rintro e' w8 ⟨rfl, rfl⟩; have ho6 := ho5)
    | (go_at_call 24; ((with_reducible refine (bapp_n (crcMore 0 B) 4 4 rfl w1.heap.size _ _ _ _ hcrc (by omega) (by omega) ho6 HX.size (by omega)).mono ?_); rintro e' w9 ⟨s9, rfl, ho7, hb9, _⟩; have HX := HX.trans hb9))
    | (at_builtin; refine wpList_app _ rfl (.tmp 46) (.tmp 47) _ rfl w1.heap.size 5 i0 _ 1 1 Try.underlying22 hi hz0 hz1 hz2 rfl (by decide) _ _ _ rfl (ho7.alloc _) _ 1 _ ([0].map byteV) rfl (Rd.list (vs := [0].map byteV) (Blk.new_ _ _ _) rfl) (oneB [0]) (by unfold maxLen; omega) (by omega) (by have := HX.size; first | omega | (simp; omega)) ?_; intro s10 w10 ho8 hg10 _; have HX := (HX.alloc HX.size _).trans (below_app (Nat.le_refl _) (by simp; have := HX.size; omega) (ho7.alloc _) hg10)))
  go_ret2
  refine ⟨_, rfl, own_mono (own_len ?_ (by rw [List.map_append]; exact ho8)) (by omega), HB1.trans (HX.mono (by omega))⟩
  omega
end Go.Proofs.Ytjmochkhdapmiaa
