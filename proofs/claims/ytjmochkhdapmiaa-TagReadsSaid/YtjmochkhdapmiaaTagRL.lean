/- Chapter 8's own Lay: it lays what package tag lays. -/
import Derived.Test.YtjmochkhdapmiaaTagOp
import Derived.Test.YtjmochkhdapmiaaApp
import Derived.Test.YtjmochkhdapmiaaLendB
import Derived.Test.YtjmochkhdapmiaaSl2
import Derived.Deep.RegionHeld3
import Derived.Deep.DrawnRows
import Derived.Deep.DeepCutAuto
namespace Go.Proofs.Ytjmochkhdapmiaa
open Go.ChangeShapes Go.WideShapes Go.ChangeAt Go.RowKit
attribute [local go_sem ↓] Go.wp_at_zero Go.wp_at_succ
set_option linter.unusedSimpArgs false
set_option linter.unusedVariables false

theorem rcrcOf_len (bs : List Nat) (n : Nat) (hn : bs.length = n) (A : Option Addr) (c : Nat) (w : World) (h1 : Sl w w.heap.size A (bs.map byteV)) (h8 : Bytes8 bs) (n1 : bs.length ≤ 1000000000) :
    Calls Try.prog 27 #[.slice A n c] w fun e w' => e = .returned (.int .u32 (crcMore 0 bs)) ∧ w = w' := by
  subst hn
  exact (rcrcOf_any bs A c w h1 h8 n1).mono fun e w' h => ⟨h.1, h.2.symm⟩

theorem rlay_no (data : List Nat) (A : Option Addr) (c : Nat) (k p s e : Int) (w : World) (hno : mayDataB data.length = false ∨ tagB k p s e = false) (n1 : data.length ≤ 1000000) :
    Calls Try.prog 12 #[.slice A data.length c, .agg #[.int .i64 k, .int .i64 p, .int .i64 s, .int .i64 e]] w fun e' w' => e' = .returned (.tuple #[.slice none 0 0, .int .i64 2]) ∧ Below w.heap.size w w' := by
  by_cases h24 : data.length < 24
  · have q1 : (data.length : Int) < 24 := by omega
    clear hno h24
    go_enter Try.func12, Try.ntmps12
    go_wp2
    go_ret2
    exact ⟨rfl, (Below.refl _ _).alloc (Nat.le_refl _) _⟩
  · by_cases h64 : 64 < data.length
    · have q1 : ¬ (data.length : Int) < 24 := by omega
      have q2 : (64 : Int) < (data.length : Int) := by omega
      clear hno h24 h64
      go_enter Try.func12, Try.ntmps12
      go_wp2
      go_ret2
      exact ⟨rfl, (Below.refl _ _).alloc (Nat.le_refl _) _⟩
    · have q1 : ¬ (data.length : Int) < 24 := by omega
      have q2 : ¬ (64 : Int) < (data.length : Int) := by omega
      have ht : tagB k p s e = false := by
        rcases hno with h | h
        · unfold mayDataB at h
          rw [Bool.and_eq_false_iff, decide_eq_false_iff_not, decide_eq_false_iff_not] at h
          omega
        · exact h
      have HT := Lib.hid ht
      clear hno ht h24 h64
      go_enter Try.func12, Try.ntmps12
      go_wp2_with (go_at_call 16; refine (rtmay_any _ _ _ _ _).mono ?_; rw [HT.out]; rintro e' w1 ⟨rfl, hb1⟩)
      go_ret2
      exact ⟨rfl, below1 hb1⟩

set_option maxRecDepth 100000 in
set_option maxHeartbeats 8000000 in
theorem rlay_yes (data : List Nat) (A : Option Addr) (c : Nat) (k p s e : Nat) (w : World) (h1 : Sl w w.heap.size A (data.map byteV)) (h : LayOk data k p s e) :
    Calls Try.prog 12 #[.slice A data.length c, .agg #[.int .i64 k, .int .i64 p, .int .i64 s, .int .i64 e]] w fun e' w' => ∃ sv, e' = .returned (.tuple #[sv, .int .i64 0]) ∧ w'.ownsRow (w.heap.size + 1) 5 1 sv (data.length + 16) ((rawB data k p s e).map byteV) ∧ Below w.heap.size w w' := by
  obtain ⟨hd1, hd2, hk1, hk2, hkp, hp, hs, he, h8⟩ := h
  have ht : tagB k p s e = true := tagB_iff.2 (by omega)
  have HT := Lib.hid ht
  have HKP := Lib.hid hkp
  have q1 : ¬ (data.length : Int) < 24 := by omega
  have q2 : ¬ (64 : Int) < (data.length : Int) := by omega
  have hG0 : Blk (w.alloc (.cells #[.int .i64 k, .int .i64 p, .int .i64 s, .int .i64 e] 24)) w.heap.size 24 #[.int .i64 k, .int .i64 p, .int .i64 s, .int .i64 e] := Blk.new_ w _ _
  have h0 := h1.next ((Below.refl _ _).alloc (Nat.le_refl _) (.cells #[.int .i64 k, .int .i64 p, .int .i64 s, .int .i64 e] 24))
  have hK : (1 : Int) ≤ (k : Int) := by omega
  have hK2 : (k : Int) ≤ 3 := by omega
  have wk : IntKind.u8.wrap (k : Int) = (k : Int) := by rw [IntKind.wrap_u8']; omega
  have he4 : e < 4294967296 := by omega
  have hp4 : p < 4294967296 := by omega
  have hcrc : crcMore 0 (bodyB data k p s e) < 4294967296 := crcMore_lt (by omega)
  have hb8 : Hid (Bytes8 (bodyB data k p s e)) := Lib.hid (bodyB_8 h8 (by omega))
  have hbl : Hid ((bodyB data k p s e).length = data.length + 11) := Lib.hid (bodyB_len _ _ _ _ _)
  obtain ⟨B, hB⟩ : ∃ B, bodyB data k p s e = B := ⟨_, rfl⟩
  have HBB := Lib.hid hB
  have hraw : (rawB data k p s e) = (B ++ beB (crcMore 0 B) 4) ++ [0] := by unfold rawB; rw [hB]
  rw [hraw]
  rw [hB] at hcrc hb8 hbl
  clear ht hkp hB hraw
  obtain ⟨i0, hi, hz0, hz1, hz2⟩ := info_parts infoByte
  go_enter Try.func12, Try.ntmps12
  go_upto_region 3 with (go_at_call 16; refine (rtmay_any _ _ _ _ _).mono ?_; rw [HT.out]; rintro e' w1 ⟨rfl, hb1⟩; have H1 := h0.next hb1; have HG1 := hG0.below hb1 (by simp); have HB1 := below1 hb1; have hzb : w.heap.size < w1.heap.size := (by { have := hb1.size; simp at this; omega }); clear hb1 h0 hG0)
  have y0 := HG1.cell_ 0
  have y1 := HG1.cell_ 1
  have y2 := HG1.cell_ 2
  have y3 := HG1.cell_ 3
  simp at y0 y1 y2 y3
  go_cut [6] (fun s6 wx => wx.ownsRow w1.heap.size 5 1 s6 (data.length + 2) ((data ++ [74, k]).map byteV) ∧ Below w1.heap.size w1 wx)
  case first =>
    refine wp_region_noPanic ?_
    refine wp_region_held_drew (S := (fun w' => Below w1.heap.size w1 w' ∧ w'.cell? ⟨w.heap.size, 0, none⟩ = some (.int .i64 k) ∧ w'.cell? ⟨w.heap.size, 1, none⟩ = some (.int .i64 p) ∧ w'.cell? ⟨w.heap.size, 2, none⟩ = some (.int .i64 s) ∧ w'.cell? ⟨w.heap.size, 3, none⟩ = some (.int .i64 e))) (by kernel_rfl) ?_ (fun hHeld => ?_)
    · (first | exact ⟨(Below.refl _ _).drew, y0, y1, y2, y3⟩ | exact ⟨HX, (HX.cell (p := ⟨w.heap.size, 0, none⟩) hzb).trans y0, (HX.cell (p := ⟨w.heap.size, 1, none⟩) hzb).trans y1, (HX.cell (p := ⟨w.heap.size, 2, none⟩) hzb).trans y2, (HX.cell (p := ⟨w.heap.size, 3, none⟩) hzb).trans y3⟩ | exact ⟨(HX.alloc HX.size _), ((HX.alloc HX.size _).cell (p := ⟨w.heap.size, 0, none⟩) hzb).trans y0, ((HX.alloc HX.size _).cell (p := ⟨w.heap.size, 1, none⟩) hzb).trans y1, ((HX.alloc HX.size _).cell (p := ⟨w.heap.size, 2, none⟩) hzb).trans y2, ((HX.alloc HX.size _).cell (p := ⟨w.heap.size, 3, none⟩) hzb).trans y3⟩ | exact ⟨((Below.refl w1.heap.size w1).alloc (Nat.le_refl _) _).drew, (((Below.refl w1.heap.size w1).alloc (Nat.le_refl _) _).drew.cell (p := ⟨w.heap.size, 0, none⟩) hzb).trans y0, (((Below.refl w1.heap.size w1).alloc (Nat.le_refl _) _).drew.cell (p := ⟨w.heap.size, 1, none⟩) hzb).trans y1, (((Below.refl w1.heap.size w1).alloc (Nat.le_refl _) _).drew.cell (p := ⟨w.heap.size, 2, none⟩) hzb).trans y2, (((Below.refl w1.heap.size w1).alloc (Nat.le_refl _) _).drew.cell (p := ⟨w.heap.size, 3, none⟩) hzb).trans y3⟩ | exact ⟨HX2, (HX2.cell (p := ⟨w.heap.size, 0, none⟩) hzb).trans y0, (HX2.cell (p := ⟨w.heap.size, 1, none⟩) hzb).trans y1, (HX2.cell (p := ⟨w.heap.size, 2, none⟩) hzb).trans y2, (HX2.cell (p := ⟨w.heap.size, 3, none⟩) hzb).trans y3⟩)
    refine wpAnyH_take (i := 0) (oi := { dst := some 20, op := Op.move (Operand.tmp 0), type := 22, pos := "ref.go:27", after := #[], guard := none }) (v := ?_) rfl (by kernel_rfl) (by kernel_rfl) (by kernel_rfl) (fun _ _ _ h => h) (Or.inl ⟨by rfl, ?_⟩) (by assumption) ?_
    rotate_left
    · (intro wS hSw; (try dsimp only at hSw); go_simp; (try with_reducible rfl))
    try simp only [Act.put, List.setIfInBounds_toArray, List.set_cons_zero, List.set_cons_succ]
    refine wpAnyH_take (i := 2) (oi := { dst := some 22, op := Op.fieldAddr 24 (Operand.tmp 3) 0, type := 0, pos := "ref.go:27", after := #[], guard := none }) (v := ?_) rfl (by kernel_rfl) (by kernel_rfl) (by kernel_rfl) (fun _ _ _ h => h) (Or.inl ⟨by rfl, ?_⟩) (by assumption) ?_
    rotate_left
    · (intro wS hSw; (try dsimp only at hSw); go_simp; (try with_reducible rfl))
    try simp only [Act.put, List.setIfInBounds_toArray, List.set_cons_zero, List.set_cons_succ]
    refine wpAnyH_take (i := 3) (oi := { dst := some 23, op := Op.load 3 (Operand.tmp 22), type := 3, pos := "ref.go:27", after := #[{ on := 2, ground := Ground.data }], guard := none }) (v := ?_) rfl (by kernel_rfl) (by kernel_rfl) (by kernel_rfl) (fun _ _ _ h => h) (Or.inl ⟨by rfl, ?_⟩) (by assumption) ?_
    rotate_left
    · (intro wS hSw; (try dsimp only at hSw); go_simp; (try with_reducible rfl))
    try simp only [Act.put, List.setIfInBounds_toArray, List.set_cons_zero, List.set_cons_succ]
    refine wpAnyH_take (i := 4) (oi := { dst := some 24, op := Op.convert 3 5 (Operand.tmp 23), type := 5, pos := "ref.go:27", after := #[{ on := 3, ground := Ground.data }], guard := none }) (v := ?_) rfl (by kernel_rfl) (by kernel_rfl) (by kernel_rfl) (fun _ _ _ h => h) (Or.inl ⟨by rfl, ?_⟩) (by assumption) ?_
    rotate_left
    · (intro wS hSw; (try dsimp only at hSw); go_simp; (try with_reducible rfl))
    try simp only [Act.put, List.setIfInBounds_toArray, List.set_cons_zero, List.set_cons_succ]
    refine wpAnyH_ready (rs := [1, 5]) (by kernel_rfl) (by simp) ?_
    refine (AllReadyH.cons (o := { dst := some 21, op := Op.call { callee := Callee.builtin Builtin.append, args := #[Operand.const (Value.slice none 0 0), Operand.tmp 20], argTypes := #[22, 22] }, type := 22, pos := "ref.go:27", after := #[{ on := 0, ground := Ground.data }], guard := none }) rfl (fun K hK => ?_) (AllReadyH.cons (o := { dst := some 25, op := Op.buildSlice 22 2 #[(0, Operand.const (Value.int IntKind.u8 74)), (1, Operand.tmp 24)], type := 22, pos := "ref.go:27", after := #[{ on := 4, ground := Ground.data }], guard := none }) rfl (fun K hK => ?_) AllReadyH.nil))
    · refine step_app _ rfl (.const (.slice none 0 0)) (.tmp 20) _ rfl w1.heap.size 5 i0 _ 1 1 Try.underlying22 hi hz0 hz1 hz2 rfl (by decide) (.slice none 0 0) 0 [] rfl (World.ownsRow_nil _ _ _ _) _ data.length _ (data.map byteV) rfl (Rd.of_sl (H1.below hHeld.1) (by simp)) (oneB data) (by unfold maxLen; omega) (by omega) hHeld.1.size ?_
      intro s3 w3 ho1 hg3 _
      have HX := hHeld.1.trans (below_app (Nat.le_refl _) hHeld.1.size (World.ownsRow_nil _ w1.heap.size 5 1) hg3)
      refine hK.out _ _ ?_ (fun hNew => ?_)
      · (first | exact ⟨(Below.refl _ _).drew, y0, y1, y2, y3⟩ | exact ⟨HX, (HX.cell (p := ⟨w.heap.size, 0, none⟩) hzb).trans y0, (HX.cell (p := ⟨w.heap.size, 1, none⟩) hzb).trans y1, (HX.cell (p := ⟨w.heap.size, 2, none⟩) hzb).trans y2, (HX.cell (p := ⟨w.heap.size, 3, none⟩) hzb).trans y3⟩ | exact ⟨(HX.alloc HX.size _), ((HX.alloc HX.size _).cell (p := ⟨w.heap.size, 0, none⟩) hzb).trans y0, ((HX.alloc HX.size _).cell (p := ⟨w.heap.size, 1, none⟩) hzb).trans y1, ((HX.alloc HX.size _).cell (p := ⟨w.heap.size, 2, none⟩) hzb).trans y2, ((HX.alloc HX.size _).cell (p := ⟨w.heap.size, 3, none⟩) hzb).trans y3⟩ | exact ⟨((Below.refl w1.heap.size w1).alloc (Nat.le_refl _) _).drew, (((Below.refl w1.heap.size w1).alloc (Nat.le_refl _) _).drew.cell (p := ⟨w.heap.size, 0, none⟩) hzb).trans y0, (((Below.refl w1.heap.size w1).alloc (Nat.le_refl _) _).drew.cell (p := ⟨w.heap.size, 1, none⟩) hzb).trans y1, (((Below.refl w1.heap.size w1).alloc (Nat.le_refl _) _).drew.cell (p := ⟨w.heap.size, 2, none⟩) hzb).trans y2, (((Below.refl w1.heap.size w1).alloc (Nat.le_refl _) _).drew.cell (p := ⟨w.heap.size, 3, none⟩) hzb).trans y3⟩ | exact ⟨HX2, (HX2.cell (p := ⟨w.heap.size, 0, none⟩) hzb).trans y0, (HX2.cell (p := ⟨w.heap.size, 1, none⟩) hzb).trans y1, (HX2.cell (p := ⟨w.heap.size, 2, none⟩) hzb).trans y2, (HX2.cell (p := ⟨w.heap.size, 3, none⟩) hzb).trans y3⟩)
      clear hK K hHeld
      have hHeld := hNew
      clear hNew
      try simp only [Act.put, List.setIfInBounds_toArray, List.set_cons_zero, List.set_cons_succ]
      refine wpAnyH_ready (rs := [5]) (by kernel_rfl) (by simp) ?_
      refine AllReadyH.cons (o := { dst := some 25, op := Op.buildSlice 22 2 #[(0, Operand.const (Value.int IntKind.u8 74)), (1, Operand.tmp 24)], type := 22, pos := "ref.go:27", after := #[{ on := 4, ground := Ground.data }], guard := none }) rfl (fun K hK => ?_) AllReadyH.nil
      go_simp
      skip
      refine hK.out _ _ ?_ (fun hNew => ?_)
      · (first | exact ⟨(Below.refl _ _).drew, y0, y1, y2, y3⟩ | exact ⟨HX, (HX.cell (p := ⟨w.heap.size, 0, none⟩) hzb).trans y0, (HX.cell (p := ⟨w.heap.size, 1, none⟩) hzb).trans y1, (HX.cell (p := ⟨w.heap.size, 2, none⟩) hzb).trans y2, (HX.cell (p := ⟨w.heap.size, 3, none⟩) hzb).trans y3⟩ | exact ⟨(HX.alloc HX.size _), ((HX.alloc HX.size _).cell (p := ⟨w.heap.size, 0, none⟩) hzb).trans y0, ((HX.alloc HX.size _).cell (p := ⟨w.heap.size, 1, none⟩) hzb).trans y1, ((HX.alloc HX.size _).cell (p := ⟨w.heap.size, 2, none⟩) hzb).trans y2, ((HX.alloc HX.size _).cell (p := ⟨w.heap.size, 3, none⟩) hzb).trans y3⟩ | exact ⟨((Below.refl w1.heap.size w1).alloc (Nat.le_refl _) _).drew, (((Below.refl w1.heap.size w1).alloc (Nat.le_refl _) _).drew.cell (p := ⟨w.heap.size, 0, none⟩) hzb).trans y0, (((Below.refl w1.heap.size w1).alloc (Nat.le_refl _) _).drew.cell (p := ⟨w.heap.size, 1, none⟩) hzb).trans y1, (((Below.refl w1.heap.size w1).alloc (Nat.le_refl _) _).drew.cell (p := ⟨w.heap.size, 2, none⟩) hzb).trans y2, (((Below.refl w1.heap.size w1).alloc (Nat.le_refl _) _).drew.cell (p := ⟨w.heap.size, 3, none⟩) hzb).trans y3⟩ | exact ⟨HX2, (HX2.cell (p := ⟨w.heap.size, 0, none⟩) hzb).trans y0, (HX2.cell (p := ⟨w.heap.size, 1, none⟩) hzb).trans y1, (HX2.cell (p := ⟨w.heap.size, 2, none⟩) hzb).trans y2, (HX2.cell (p := ⟨w.heap.size, 3, none⟩) hzb).trans y3⟩)
      clear hK K hHeld
      have hHeld := hNew
      clear hNew
      try simp only [Act.put, List.setIfInBounds_toArray, List.set_cons_zero, List.set_cons_succ]
      refine wpAnyH_ready (rs := [6]) (by kernel_rfl) (by simp) ?_
      refine AllReadyH.cons (o := { dst := some 26, op := Op.call { callee := Callee.builtin Builtin.append, args := #[Operand.tmp 21, Operand.tmp 25], argTypes := #[22, 22] }, type := 22, pos := "ref.go:27", after := #[{ on := 1, ground := Ground.data }, { on := 5, ground := Ground.data }, { on := 1, ground := Ground.chain }], guard := none }) rfl (fun K hK => ?_) AllReadyH.nil
      first
      | (refine step_app _ rfl (.tmp 21) (.tmp 25) _ rfl w1.heap.size 5 i0 _ 1 1 Try.underlying22 hi hz0 hz1 hz2 rfl (by decide) _ _ _ rfl (ho1.alloc _) _ 2 _ ([74, k].map byteV) rfl (Rd.list (vs := [74, k].map byteV) (Blk.new_ _ _ _) rfl) (oneB [74, k]) (by unfold maxLen; omega) (by omega) (by have := HX.size; simp; omega) ?_; intro s4 w4 ho2 hg4 _; have HX2 := (HX.alloc HX.size _).trans (below_app (Nat.le_refl _) (by simp; have := HX.size; omega) (ho1.alloc _) hg4))
      | (refine step_app _ rfl (.tmp 21) (.tmp 25) _ rfl w1.heap.size 5 i0 _ 1 1 Try.underlying22 hi hz0 hz1 hz2 rfl (by decide) _ _ _ rfl ho1 _ 2 _ ([74, k].map byteV) rfl (Rd.list (vs := [74, k].map byteV) ((hg3.block w1.heap.size (by simp) (by simp [Value.ownBlock])).trans (Blk.new_ w1 5 #[byteV 74, byteV k])) rfl) (oneB [74, k]) (by unfold maxLen; omega) (by omega) HX.size ?_; intro s4 w4 ho2 hg4 _; have HX2 := HX.trans (below_app (Nat.le_refl _) HX.size ho1 hg4))
      refine hK.out _ _ ?_ (fun hNew => ?_)
      · (first | exact ⟨(Below.refl _ _).drew, y0, y1, y2, y3⟩ | exact ⟨HX, (HX.cell (p := ⟨w.heap.size, 0, none⟩) hzb).trans y0, (HX.cell (p := ⟨w.heap.size, 1, none⟩) hzb).trans y1, (HX.cell (p := ⟨w.heap.size, 2, none⟩) hzb).trans y2, (HX.cell (p := ⟨w.heap.size, 3, none⟩) hzb).trans y3⟩ | exact ⟨(HX.alloc HX.size _), ((HX.alloc HX.size _).cell (p := ⟨w.heap.size, 0, none⟩) hzb).trans y0, ((HX.alloc HX.size _).cell (p := ⟨w.heap.size, 1, none⟩) hzb).trans y1, ((HX.alloc HX.size _).cell (p := ⟨w.heap.size, 2, none⟩) hzb).trans y2, ((HX.alloc HX.size _).cell (p := ⟨w.heap.size, 3, none⟩) hzb).trans y3⟩ | exact ⟨((Below.refl w1.heap.size w1).alloc (Nat.le_refl _) _).drew, (((Below.refl w1.heap.size w1).alloc (Nat.le_refl _) _).drew.cell (p := ⟨w.heap.size, 0, none⟩) hzb).trans y0, (((Below.refl w1.heap.size w1).alloc (Nat.le_refl _) _).drew.cell (p := ⟨w.heap.size, 1, none⟩) hzb).trans y1, (((Below.refl w1.heap.size w1).alloc (Nat.le_refl _) _).drew.cell (p := ⟨w.heap.size, 2, none⟩) hzb).trans y2, (((Below.refl w1.heap.size w1).alloc (Nat.le_refl _) _).drew.cell (p := ⟨w.heap.size, 3, none⟩) hzb).trans y3⟩ | exact ⟨HX2, (HX2.cell (p := ⟨w.heap.size, 0, none⟩) hzb).trans y0, (HX2.cell (p := ⟨w.heap.size, 1, none⟩) hzb).trans y1, (HX2.cell (p := ⟨w.heap.size, 2, none⟩) hzb).trans y2, (HX2.cell (p := ⟨w.heap.size, 3, none⟩) hzb).trans y3⟩)
      clear hK K hHeld
      have hHeld := hNew
      clear hNew
      try simp only [Act.put, List.setIfInBounds_toArray, List.set_cons_zero, List.set_cons_succ]
      refine wpAnyH_take (i := 7) (oi := { dst := some 6, op := Op.assign (Operand.tmp 26), type := 22, pos := "ref.go:27", after := #[{ on := 6, ground := Ground.data }, { on := 6, ground := Ground.chain }, { on := 0, ground := Ground.phase }, { on := 1, ground := Ground.phase }, { on := 2, ground := Ground.phase }, { on := 3, ground := Ground.phase }, { on := 4, ground := Ground.phase }, { on := 5, ground := Ground.phase }, { on := 6, ground := Ground.phase }], guard := none }) (v := ?_) rfl (by kernel_rfl) (by kernel_rfl) (by kernel_rfl) (fun _ _ _ h => h) (Or.inl ⟨by rfl, ?_⟩) (by assumption) ?_
      rotate_left
      · (intro wS hSw; (try dsimp only at hSw); go_simp; (try with_reducible rfl))
      try simp only [Act.put, List.setIfInBounds_toArray, List.set_cons_zero, List.set_cons_succ]
      refine wpAnyH_done (by kernel_rfl) ?_ _
      refine NoPanic.normal ?_
      go_wp2_with fail
      go_meet
      exact ⟨own_len (n := 0 + data.length + 2) (by omega) (by simpa using ho2), HX2⟩
    · go_simp
      skip
      refine hK.out _ _ ?_ (fun hNew => ?_)
      · (first | exact ⟨(Below.refl _ _).drew, y0, y1, y2, y3⟩ | exact ⟨HX, (HX.cell (p := ⟨w.heap.size, 0, none⟩) hzb).trans y0, (HX.cell (p := ⟨w.heap.size, 1, none⟩) hzb).trans y1, (HX.cell (p := ⟨w.heap.size, 2, none⟩) hzb).trans y2, (HX.cell (p := ⟨w.heap.size, 3, none⟩) hzb).trans y3⟩ | exact ⟨(HX.alloc HX.size _), ((HX.alloc HX.size _).cell (p := ⟨w.heap.size, 0, none⟩) hzb).trans y0, ((HX.alloc HX.size _).cell (p := ⟨w.heap.size, 1, none⟩) hzb).trans y1, ((HX.alloc HX.size _).cell (p := ⟨w.heap.size, 2, none⟩) hzb).trans y2, ((HX.alloc HX.size _).cell (p := ⟨w.heap.size, 3, none⟩) hzb).trans y3⟩ | exact ⟨((Below.refl w1.heap.size w1).alloc (Nat.le_refl _) _).drew, (((Below.refl w1.heap.size w1).alloc (Nat.le_refl _) _).drew.cell (p := ⟨w.heap.size, 0, none⟩) hzb).trans y0, (((Below.refl w1.heap.size w1).alloc (Nat.le_refl _) _).drew.cell (p := ⟨w.heap.size, 1, none⟩) hzb).trans y1, (((Below.refl w1.heap.size w1).alloc (Nat.le_refl _) _).drew.cell (p := ⟨w.heap.size, 2, none⟩) hzb).trans y2, (((Below.refl w1.heap.size w1).alloc (Nat.le_refl _) _).drew.cell (p := ⟨w.heap.size, 3, none⟩) hzb).trans y3⟩ | exact ⟨HX2, (HX2.cell (p := ⟨w.heap.size, 0, none⟩) hzb).trans y0, (HX2.cell (p := ⟨w.heap.size, 1, none⟩) hzb).trans y1, (HX2.cell (p := ⟨w.heap.size, 2, none⟩) hzb).trans y2, (HX2.cell (p := ⟨w.heap.size, 3, none⟩) hzb).trans y3⟩)
      clear hK K hHeld
      have hHeld := hNew
      clear hNew
      try simp only [Act.put, List.setIfInBounds_toArray, List.set_cons_zero, List.set_cons_succ]
      refine wpAnyH_ready (rs := [1]) (by kernel_rfl) (by simp) ?_
      refine AllReadyH.cons (o := { dst := some 21, op := Op.call { callee := Callee.builtin Builtin.append, args := #[Operand.const (Value.slice none 0 0), Operand.tmp 20], argTypes := #[22, 22] }, type := 22, pos := "ref.go:27", after := #[{ on := 0, ground := Ground.data }], guard := none }) rfl (fun K hK => ?_) AllReadyH.nil
      refine step_app _ rfl (.const (.slice none 0 0)) (.tmp 20) _ rfl w1.heap.size 5 i0 _ 1 1 Try.underlying22 hi hz0 hz1 hz2 rfl (by decide) (.slice none 0 0) 0 [] rfl (World.ownsRow_nil _ _ _ _) _ data.length _ (data.map byteV) rfl (Rd.of_sl (H1.below hHeld.1) (by simp)) (oneB data) (by unfold maxLen; omega) (by omega) hHeld.1.size ?_
      intro s3 w3 ho1 hg3 _
      have HX := hHeld.1.trans (below_app (Nat.le_refl _) hHeld.1.size (World.ownsRow_nil _ w1.heap.size 5 1) hg3)
      refine hK.out _ _ ?_ (fun hNew => ?_)
      · (first | exact ⟨(Below.refl _ _).drew, y0, y1, y2, y3⟩ | exact ⟨HX, (HX.cell (p := ⟨w.heap.size, 0, none⟩) hzb).trans y0, (HX.cell (p := ⟨w.heap.size, 1, none⟩) hzb).trans y1, (HX.cell (p := ⟨w.heap.size, 2, none⟩) hzb).trans y2, (HX.cell (p := ⟨w.heap.size, 3, none⟩) hzb).trans y3⟩ | exact ⟨(HX.alloc HX.size _), ((HX.alloc HX.size _).cell (p := ⟨w.heap.size, 0, none⟩) hzb).trans y0, ((HX.alloc HX.size _).cell (p := ⟨w.heap.size, 1, none⟩) hzb).trans y1, ((HX.alloc HX.size _).cell (p := ⟨w.heap.size, 2, none⟩) hzb).trans y2, ((HX.alloc HX.size _).cell (p := ⟨w.heap.size, 3, none⟩) hzb).trans y3⟩ | exact ⟨((Below.refl w1.heap.size w1).alloc (Nat.le_refl _) _).drew, (((Below.refl w1.heap.size w1).alloc (Nat.le_refl _) _).drew.cell (p := ⟨w.heap.size, 0, none⟩) hzb).trans y0, (((Below.refl w1.heap.size w1).alloc (Nat.le_refl _) _).drew.cell (p := ⟨w.heap.size, 1, none⟩) hzb).trans y1, (((Below.refl w1.heap.size w1).alloc (Nat.le_refl _) _).drew.cell (p := ⟨w.heap.size, 2, none⟩) hzb).trans y2, (((Below.refl w1.heap.size w1).alloc (Nat.le_refl _) _).drew.cell (p := ⟨w.heap.size, 3, none⟩) hzb).trans y3⟩ | exact ⟨HX2, (HX2.cell (p := ⟨w.heap.size, 0, none⟩) hzb).trans y0, (HX2.cell (p := ⟨w.heap.size, 1, none⟩) hzb).trans y1, (HX2.cell (p := ⟨w.heap.size, 2, none⟩) hzb).trans y2, (HX2.cell (p := ⟨w.heap.size, 3, none⟩) hzb).trans y3⟩)
      clear hK K hHeld
      have hHeld := hNew
      clear hNew
      try simp only [Act.put, List.setIfInBounds_toArray, List.set_cons_zero, List.set_cons_succ]
      refine wpAnyH_ready (rs := [6]) (by kernel_rfl) (by simp) ?_
      refine AllReadyH.cons (o := { dst := some 26, op := Op.call { callee := Callee.builtin Builtin.append, args := #[Operand.tmp 21, Operand.tmp 25], argTypes := #[22, 22] }, type := 22, pos := "ref.go:27", after := #[{ on := 1, ground := Ground.data }, { on := 5, ground := Ground.data }, { on := 1, ground := Ground.chain }], guard := none }) rfl (fun K hK => ?_) AllReadyH.nil
      first
      | (refine step_app _ rfl (.tmp 21) (.tmp 25) _ rfl w1.heap.size 5 i0 _ 1 1 Try.underlying22 hi hz0 hz1 hz2 rfl (by decide) _ _ _ rfl (ho1.alloc _) _ 2 _ ([74, k].map byteV) rfl (Rd.list (vs := [74, k].map byteV) (Blk.new_ _ _ _) rfl) (oneB [74, k]) (by unfold maxLen; omega) (by omega) (by have := HX.size; simp; omega) ?_; intro s4 w4 ho2 hg4 _; have HX2 := (HX.alloc HX.size _).trans (below_app (Nat.le_refl _) (by simp; have := HX.size; omega) (ho1.alloc _) hg4))
      | (refine step_app _ rfl (.tmp 21) (.tmp 25) _ rfl w1.heap.size 5 i0 _ 1 1 Try.underlying22 hi hz0 hz1 hz2 rfl (by decide) _ _ _ rfl ho1 _ 2 _ ([74, k].map byteV) rfl (Rd.list (vs := [74, k].map byteV) ((hg3.block w1.heap.size (by simp) (by simp [Value.ownBlock])).trans (Blk.new_ w1 5 #[byteV 74, byteV k])) rfl) (oneB [74, k]) (by unfold maxLen; omega) (by omega) HX.size ?_; intro s4 w4 ho2 hg4 _; have HX2 := HX.trans (below_app (Nat.le_refl _) HX.size ho1 hg4))
      refine hK.out _ _ ?_ (fun hNew => ?_)
      · (first | exact ⟨(Below.refl _ _).drew, y0, y1, y2, y3⟩ | exact ⟨HX, (HX.cell (p := ⟨w.heap.size, 0, none⟩) hzb).trans y0, (HX.cell (p := ⟨w.heap.size, 1, none⟩) hzb).trans y1, (HX.cell (p := ⟨w.heap.size, 2, none⟩) hzb).trans y2, (HX.cell (p := ⟨w.heap.size, 3, none⟩) hzb).trans y3⟩ | exact ⟨(HX.alloc HX.size _), ((HX.alloc HX.size _).cell (p := ⟨w.heap.size, 0, none⟩) hzb).trans y0, ((HX.alloc HX.size _).cell (p := ⟨w.heap.size, 1, none⟩) hzb).trans y1, ((HX.alloc HX.size _).cell (p := ⟨w.heap.size, 2, none⟩) hzb).trans y2, ((HX.alloc HX.size _).cell (p := ⟨w.heap.size, 3, none⟩) hzb).trans y3⟩ | exact ⟨((Below.refl w1.heap.size w1).alloc (Nat.le_refl _) _).drew, (((Below.refl w1.heap.size w1).alloc (Nat.le_refl _) _).drew.cell (p := ⟨w.heap.size, 0, none⟩) hzb).trans y0, (((Below.refl w1.heap.size w1).alloc (Nat.le_refl _) _).drew.cell (p := ⟨w.heap.size, 1, none⟩) hzb).trans y1, (((Below.refl w1.heap.size w1).alloc (Nat.le_refl _) _).drew.cell (p := ⟨w.heap.size, 2, none⟩) hzb).trans y2, (((Below.refl w1.heap.size w1).alloc (Nat.le_refl _) _).drew.cell (p := ⟨w.heap.size, 3, none⟩) hzb).trans y3⟩ | exact ⟨HX2, (HX2.cell (p := ⟨w.heap.size, 0, none⟩) hzb).trans y0, (HX2.cell (p := ⟨w.heap.size, 1, none⟩) hzb).trans y1, (HX2.cell (p := ⟨w.heap.size, 2, none⟩) hzb).trans y2, (HX2.cell (p := ⟨w.heap.size, 3, none⟩) hzb).trans y3⟩)
      clear hK K hHeld
      have hHeld := hNew
      clear hNew
      try simp only [Act.put, List.setIfInBounds_toArray, List.set_cons_zero, List.set_cons_succ]
      refine wpAnyH_take (i := 7) (oi := { dst := some 6, op := Op.assign (Operand.tmp 26), type := 22, pos := "ref.go:27", after := #[{ on := 6, ground := Ground.data }, { on := 6, ground := Ground.chain }, { on := 0, ground := Ground.phase }, { on := 1, ground := Ground.phase }, { on := 2, ground := Ground.phase }, { on := 3, ground := Ground.phase }, { on := 4, ground := Ground.phase }, { on := 5, ground := Ground.phase }, { on := 6, ground := Ground.phase }], guard := none }) (v := ?_) rfl (by kernel_rfl) (by kernel_rfl) (by kernel_rfl) (fun _ _ _ h => h) (Or.inl ⟨by rfl, ?_⟩) (by assumption) ?_
      rotate_left
      · (intro wS hSw; (try dsimp only at hSw); go_simp; (try with_reducible rfl))
      try simp only [Act.put, List.setIfInBounds_toArray, List.set_cons_zero, List.set_cons_succ]
      refine wpAnyH_done (by kernel_rfl) ?_ _
      refine NoPanic.normal ?_
      go_wp2_with fail
      go_meet
      exact ⟨own_len (n := 0 + data.length + 2) (by omega) (by simpa using ho2), HX2⟩
  case rest =>
  obtain ⟨ho2, HX⟩ := hcut
  obtain ⟨w2, rfl⟩ : ∃ W : World, W = wc := ⟨_, rfl⟩
  have G2 := HG1.below HX hzb
  clear y0 y1 y2 y3
  have y0 := G2.cell_ 0
  have y1 := G2.cell_ 1
  have y2 := G2.cell_ 2
  have y3 := G2.cell_ 3
  simp at y0 y1 y2 y3
  go_upto_region 4 with fail
  go_cut [6] (fun s6 wx => wx.ownsRow w1.heap.size 5 1 s6 (data.length + 11) (B.map byteV) ∧ Below w1.heap.size w1 wx)
  case first =>
    have x0 := HG1.cell_ 0
    have x1 := HG1.cell_ 1
    have x2 := HG1.cell_ 2
    have x3 := HG1.cell_ 3
    simp at x0 x1 x2 x3
    refine wp_region_noPanic ?_
    refine wp_region_held_drew (S := (fun w' => Below w1.heap.size w1 w' ∧ w'.cell? ⟨w.heap.size, 0, none⟩ = some (.int .i64 k) ∧ w'.cell? ⟨w.heap.size, 1, none⟩ = some (.int .i64 p) ∧ w'.cell? ⟨w.heap.size, 2, none⟩ = some (.int .i64 s) ∧ w'.cell? ⟨w.heap.size, 3, none⟩ = some (.int .i64 e))) (by kernel_rfl) ?_ (fun hHeld => ?_)
    · (first | exact ⟨HX.drew, y0, y1, y2, y3⟩ | exact ⟨HX3, (Below.cell (p := ⟨w.heap.size, 0, none⟩) HX3 hzb).trans x0, (Below.cell (p := ⟨w.heap.size, 1, none⟩) HX3 hzb).trans x1, (Below.cell (p := ⟨w.heap.size, 2, none⟩) HX3 hzb).trans x2, (Below.cell (p := ⟨w.heap.size, 3, none⟩) HX3 hzb).trans x3⟩ | exact ⟨HX4, (Below.cell (p := ⟨w.heap.size, 0, none⟩) HX4 hzb).trans x0, (Below.cell (p := ⟨w.heap.size, 1, none⟩) HX4 hzb).trans x1, (Below.cell (p := ⟨w.heap.size, 2, none⟩) HX4 hzb).trans x2, (Below.cell (p := ⟨w.heap.size, 3, none⟩) HX4 hzb).trans x3⟩ | exact ⟨HX5, (Below.cell (p := ⟨w.heap.size, 0, none⟩) HX5 hzb).trans x0, (Below.cell (p := ⟨w.heap.size, 1, none⟩) HX5 hzb).trans x1, (Below.cell (p := ⟨w.heap.size, 2, none⟩) HX5 hzb).trans x2, (Below.cell (p := ⟨w.heap.size, 3, none⟩) HX5 hzb).trans x3⟩)
    refine wpAnyH_take (i := 0) (oi := { dst := some 27, op := Op.move (Operand.tmp 6), type := 22, pos := "ref.go:28", after := #[], guard := none }) (v := ?_) rfl (by kernel_rfl) (by kernel_rfl) (by kernel_rfl) (fun _ _ _ h => h) (Or.inl ⟨by rfl, ?_⟩) (by assumption) ?_
    rotate_left
    · (intro wS hSw; (try dsimp only at hSw); go_simp; (try with_reducible rfl))
    try simp only [Act.put, List.setIfInBounds_toArray, List.set_cons_zero, List.set_cons_succ]
    refine wpAnyH_take (i := 1) (oi := { dst := some 28, op := Op.fieldAddr 24 (Operand.tmp 3) 1, type := 0, pos := "ref.go:28", after := #[], guard := none }) (v := ?_) rfl (by kernel_rfl) (by kernel_rfl) (by kernel_rfl) (fun _ _ _ h => h) (Or.inl ⟨by rfl, ?_⟩) (by assumption) ?_
    rotate_left
    · (intro wS hSw; (try dsimp only at hSw); go_simp; (try with_reducible rfl))
    try simp only [Act.put, List.setIfInBounds_toArray, List.set_cons_zero, List.set_cons_succ]
    refine wpAnyH_take (i := 2) (oi := { dst := some 29, op := Op.load 3 (Operand.tmp 28), type := 3, pos := "ref.go:28", after := #[{ on := 1, ground := Ground.data }], guard := none }) (v := ?_) rfl (by kernel_rfl) (by kernel_rfl) (by kernel_rfl) (fun _ _ _ h => h) (Or.inl ⟨by rfl, ?_⟩) (by assumption) ?_
    rotate_left
    · (intro wS hSw; (try dsimp only at hSw); go_simp; (try with_reducible rfl))
    try simp only [Act.put, List.setIfInBounds_toArray, List.set_cons_zero, List.set_cons_succ]
    refine wpAnyH_take (i := 4) (oi := { dst := some 31, op := Op.fieldAddr 24 (Operand.tmp 3) 2, type := 0, pos := "ref.go:28", after := #[], guard := none }) (v := ?_) rfl (by kernel_rfl) (by kernel_rfl) (by kernel_rfl) (fun _ _ _ h => h) (Or.inl ⟨by rfl, ?_⟩) (by assumption) ?_
    rotate_left
    · (intro wS hSw; (try dsimp only at hSw); go_simp; (try with_reducible rfl))
    try simp only [Act.put, List.setIfInBounds_toArray, List.set_cons_zero, List.set_cons_succ]
    refine wpAnyH_take (i := 5) (oi := { dst := some 32, op := Op.load 3 (Operand.tmp 31), type := 3, pos := "ref.go:28", after := #[{ on := 4, ground := Ground.data }], guard := none }) (v := ?_) rfl (by kernel_rfl) (by kernel_rfl) (by kernel_rfl) (fun _ _ _ h => h) (Or.inl ⟨by rfl, ?_⟩) (by assumption) ?_
    rotate_left
    · (intro wS hSw; (try dsimp only at hSw); go_simp; (try with_reducible rfl))
    try simp only [Act.put, List.setIfInBounds_toArray, List.set_cons_zero, List.set_cons_succ]
    refine wpAnyH_take (i := 7) (oi := { dst := some 34, op := Op.fieldAddr 24 (Operand.tmp 3) 3, type := 0, pos := "ref.go:28", after := #[], guard := none }) (v := ?_) rfl (by kernel_rfl) (by kernel_rfl) (by kernel_rfl) (fun _ _ _ h => h) (Or.inl ⟨by rfl, ?_⟩) (by assumption) ?_
    rotate_left
    · (intro wS hSw; (try dsimp only at hSw); go_simp; (try with_reducible rfl))
    try simp only [Act.put, List.setIfInBounds_toArray, List.set_cons_zero, List.set_cons_succ]
    refine wpAnyH_take (i := 8) (oi := { dst := some 35, op := Op.load 3 (Operand.tmp 34), type := 3, pos := "ref.go:28", after := #[{ on := 7, ground := Ground.data }], guard := none }) (v := ?_) rfl (by kernel_rfl) (by kernel_rfl) (by kernel_rfl) (fun _ _ _ h => h) (Or.inl ⟨by rfl, ?_⟩) (by assumption) ?_
    rotate_left
    · (intro wS hSw; (try dsimp only at hSw); go_simp; (try with_reducible rfl))
    try simp only [Act.put, List.setIfInBounds_toArray, List.set_cons_zero, List.set_cons_succ]
    refine wpAnyH_ready (rs := [3]) (by kernel_rfl) (by simp) ?_
    refine AllReadyH.cons (o := { dst := some 30, op := Op.call { callee := Callee.value (Operand.func 26), args := #[Operand.tmp 27, Operand.tmp 29, Operand.const (Value.int IntKind.i64 2)], argTypes := #[22, 3, 3] }, type := 22, pos := "ref.go:28", after := #[{ on := 0, ground := Ground.data }, { on := 2, ground := Ground.data }], guard := none }) rfl (fun K hK => ?_) AllReadyH.nil
    go_simp
    (first
          | (go_at_call 26; ((with_reducible refine (rnum_n p 2 2 rfl w1.heap.size _ _ _ _ hp4 (by omega) (by omega) ho2.drew hHeld.1.size (by omega)).mono ?_); rintro e' w3 ⟨s3, rfl, ho3, hb3, _⟩; have HX3 := hHeld.1.trans hb3))
          | (go_at_call 26; ((with_reducible refine (rnum_n s 4 4 rfl w1.heap.size _ _ _ _ hs (by omega) (by omega) ho3 hHeld.1.size (by omega)).mono ?_); rintro e' w4 ⟨s4, rfl, ho4, hb4, _⟩; have HX4 := hHeld.1.trans hb4))
          | (go_at_call 26; ((with_reducible refine (rnum_n e 3 3 rfl w1.heap.size _ _ _ _ he4 (by omega) (by omega) ho4 hHeld.1.size (by omega)).mono ?_); rintro e' w5 ⟨s5, rfl, ho5, hb5, _⟩; have HX5 := hHeld.1.trans hb5)))
    go_wp2_with fail
    refine hK.out _ _ ?_ (fun hNew => ?_)
    · (first | exact ⟨HX.drew, y0, y1, y2, y3⟩ | exact ⟨HX3, (Below.cell (p := ⟨w.heap.size, 0, none⟩) HX3 hzb).trans x0, (Below.cell (p := ⟨w.heap.size, 1, none⟩) HX3 hzb).trans x1, (Below.cell (p := ⟨w.heap.size, 2, none⟩) HX3 hzb).trans x2, (Below.cell (p := ⟨w.heap.size, 3, none⟩) HX3 hzb).trans x3⟩ | exact ⟨HX4, (Below.cell (p := ⟨w.heap.size, 0, none⟩) HX4 hzb).trans x0, (Below.cell (p := ⟨w.heap.size, 1, none⟩) HX4 hzb).trans x1, (Below.cell (p := ⟨w.heap.size, 2, none⟩) HX4 hzb).trans x2, (Below.cell (p := ⟨w.heap.size, 3, none⟩) HX4 hzb).trans x3⟩ | exact ⟨HX5, (Below.cell (p := ⟨w.heap.size, 0, none⟩) HX5 hzb).trans x0, (Below.cell (p := ⟨w.heap.size, 1, none⟩) HX5 hzb).trans x1, (Below.cell (p := ⟨w.heap.size, 2, none⟩) HX5 hzb).trans x2, (Below.cell (p := ⟨w.heap.size, 3, none⟩) HX5 hzb).trans x3⟩)
    clear hK K hHeld
    have hHeld := hNew
    clear hNew
    try simp only [Act.put, List.setIfInBounds_toArray, List.set_cons_zero, List.set_cons_succ]
    refine wpAnyH_ready (rs := [6]) (by kernel_rfl) (by simp) ?_
    refine AllReadyH.cons (o := { dst := some 33, op := Op.call { callee := Callee.value (Operand.func 26), args := #[Operand.tmp 30, Operand.tmp 32, Operand.const (Value.int IntKind.i64 4)], argTypes := #[22, 3, 3] }, type := 22, pos := "ref.go:28", after := #[{ on := 3, ground := Ground.data }, { on := 5, ground := Ground.data }, { on := 3, ground := Ground.chain }], guard := none }) rfl (fun K hK => ?_) AllReadyH.nil
    go_simp
    (first
          | (go_at_call 26; ((with_reducible refine (rnum_n p 2 2 rfl w1.heap.size _ _ _ _ hp4 (by omega) (by omega) ho2.drew hHeld.1.size (by omega)).mono ?_); rintro e' w3 ⟨s3, rfl, ho3, hb3, _⟩; have HX3 := hHeld.1.trans hb3))
          | (go_at_call 26; ((with_reducible refine (rnum_n s 4 4 rfl w1.heap.size _ _ _ _ hs (by omega) (by omega) ho3 hHeld.1.size (by omega)).mono ?_); rintro e' w4 ⟨s4, rfl, ho4, hb4, _⟩; have HX4 := hHeld.1.trans hb4))
          | (go_at_call 26; ((with_reducible refine (rnum_n e 3 3 rfl w1.heap.size _ _ _ _ he4 (by omega) (by omega) ho4 hHeld.1.size (by omega)).mono ?_); rintro e' w5 ⟨s5, rfl, ho5, hb5, _⟩; have HX5 := hHeld.1.trans hb5)))
    go_wp2_with fail
    refine hK.out _ _ ?_ (fun hNew => ?_)
    · (first | exact ⟨HX.drew, y0, y1, y2, y3⟩ | exact ⟨HX3, (Below.cell (p := ⟨w.heap.size, 0, none⟩) HX3 hzb).trans x0, (Below.cell (p := ⟨w.heap.size, 1, none⟩) HX3 hzb).trans x1, (Below.cell (p := ⟨w.heap.size, 2, none⟩) HX3 hzb).trans x2, (Below.cell (p := ⟨w.heap.size, 3, none⟩) HX3 hzb).trans x3⟩ | exact ⟨HX4, (Below.cell (p := ⟨w.heap.size, 0, none⟩) HX4 hzb).trans x0, (Below.cell (p := ⟨w.heap.size, 1, none⟩) HX4 hzb).trans x1, (Below.cell (p := ⟨w.heap.size, 2, none⟩) HX4 hzb).trans x2, (Below.cell (p := ⟨w.heap.size, 3, none⟩) HX4 hzb).trans x3⟩ | exact ⟨HX5, (Below.cell (p := ⟨w.heap.size, 0, none⟩) HX5 hzb).trans x0, (Below.cell (p := ⟨w.heap.size, 1, none⟩) HX5 hzb).trans x1, (Below.cell (p := ⟨w.heap.size, 2, none⟩) HX5 hzb).trans x2, (Below.cell (p := ⟨w.heap.size, 3, none⟩) HX5 hzb).trans x3⟩)
    clear hK K hHeld
    have hHeld := hNew
    clear hNew
    try simp only [Act.put, List.setIfInBounds_toArray, List.set_cons_zero, List.set_cons_succ]
    refine wpAnyH_ready (rs := [9]) (by kernel_rfl) (by simp) ?_
    refine AllReadyH.cons (o := { dst := some 36, op := Op.call { callee := Callee.value (Operand.func 26), args := #[Operand.tmp 33, Operand.tmp 35, Operand.const (Value.int IntKind.i64 3)], argTypes := #[22, 3, 3] }, type := 22, pos := "ref.go:28", after := #[{ on := 6, ground := Ground.data }, { on := 8, ground := Ground.data }, { on := 6, ground := Ground.chain }], guard := none }) rfl (fun K hK => ?_) AllReadyH.nil
    go_simp
    (first
          | (go_at_call 26; ((with_reducible refine (rnum_n p 2 2 rfl w1.heap.size _ _ _ _ hp4 (by omega) (by omega) ho2.drew hHeld.1.size (by omega)).mono ?_); rintro e' w3 ⟨s3, rfl, ho3, hb3, _⟩; have HX3 := hHeld.1.trans hb3))
          | (go_at_call 26; ((with_reducible refine (rnum_n s 4 4 rfl w1.heap.size _ _ _ _ hs (by omega) (by omega) ho3 hHeld.1.size (by omega)).mono ?_); rintro e' w4 ⟨s4, rfl, ho4, hb4, _⟩; have HX4 := hHeld.1.trans hb4))
          | (go_at_call 26; ((with_reducible refine (rnum_n e 3 3 rfl w1.heap.size _ _ _ _ he4 (by omega) (by omega) ho4 hHeld.1.size (by omega)).mono ?_); rintro e' w5 ⟨s5, rfl, ho5, hb5, _⟩; have HX5 := hHeld.1.trans hb5)))
    go_wp2_with fail
    refine hK.out _ _ ?_ (fun hNew => ?_)
    · (first | exact ⟨HX.drew, y0, y1, y2, y3⟩ | exact ⟨HX3, (Below.cell (p := ⟨w.heap.size, 0, none⟩) HX3 hzb).trans x0, (Below.cell (p := ⟨w.heap.size, 1, none⟩) HX3 hzb).trans x1, (Below.cell (p := ⟨w.heap.size, 2, none⟩) HX3 hzb).trans x2, (Below.cell (p := ⟨w.heap.size, 3, none⟩) HX3 hzb).trans x3⟩ | exact ⟨HX4, (Below.cell (p := ⟨w.heap.size, 0, none⟩) HX4 hzb).trans x0, (Below.cell (p := ⟨w.heap.size, 1, none⟩) HX4 hzb).trans x1, (Below.cell (p := ⟨w.heap.size, 2, none⟩) HX4 hzb).trans x2, (Below.cell (p := ⟨w.heap.size, 3, none⟩) HX4 hzb).trans x3⟩ | exact ⟨HX5, (Below.cell (p := ⟨w.heap.size, 0, none⟩) HX5 hzb).trans x0, (Below.cell (p := ⟨w.heap.size, 1, none⟩) HX5 hzb).trans x1, (Below.cell (p := ⟨w.heap.size, 2, none⟩) HX5 hzb).trans x2, (Below.cell (p := ⟨w.heap.size, 3, none⟩) HX5 hzb).trans x3⟩)
    clear hK K hHeld
    have hHeld := hNew
    clear hNew
    try simp only [Act.put, List.setIfInBounds_toArray, List.set_cons_zero, List.set_cons_succ]
    refine wpAnyH_take (i := 10) (oi := { dst := some 6, op := Op.assign (Operand.tmp 36), type := 22, pos := "ref.go:28", after := #[{ on := 9, ground := Ground.data }, { on := 9, ground := Ground.chain }, { on := 0, ground := Ground.phase }, { on := 1, ground := Ground.phase }, { on := 2, ground := Ground.phase }, { on := 3, ground := Ground.phase }, { on := 4, ground := Ground.phase }, { on := 5, ground := Ground.phase }, { on := 6, ground := Ground.phase }, { on := 7, ground := Ground.phase }, { on := 8, ground := Ground.phase }, { on := 9, ground := Ground.phase }], guard := none }) (v := ?_) rfl (by kernel_rfl) (by kernel_rfl) (by kernel_rfl) (fun _ _ _ h => h) (Or.inl ⟨by rfl, ?_⟩) (by assumption) ?_
    rotate_left
    · (intro wS hSw; (try dsimp only at hSw); go_simp; (try with_reducible rfl))
    try simp only [Act.put, List.setIfInBounds_toArray, List.set_cons_zero, List.set_cons_succ]
    refine wpAnyH_done (by kernel_rfl) ?_ _
    refine NoPanic.normal ?_
    go_wp2_with fail
    go_meet
    exact ⟨own_len (n := data.length + 2 + 2 + 4 + 3) (by omega) (by rw [show (((data ++ [74, k]) ++ beB p 2) ++ beB s 4) ++ beB e 3 = B from HBB.out] at ho5; exact ho5), HX5⟩
  case rest =>
  clear HX ho2 y0 y1 y2 y3
  obtain ⟨ho5, HX⟩ := hcut
  obtain ⟨w5, rfl⟩ : ∃ W : World, W = wc := ⟨_, rfl⟩
  obtain ⟨A5, c5, rfl, hl5, hc5, hc6, hA5, H5⟩ := own_slice ho5
  have HL5 := Lib.hid hl5
  clear hl5 hc5 hc6 hA5
  go_wp2_with (first
    | (go_at_call 27; refine (rcrcOf_len B _ HL5.out _ _ _ H5 hb8.out (by have := hbl.out; omega)).mono ?_; rintro e' w8 ⟨rfl, rfl⟩; have ho6 := ho5)
    | (go_at_call 26; ((with_reducible refine (rnum_n (crcMore 0 B) 4 4 rfl w1.heap.size _ _ _ _ hcrc (by omega) (by omega) ho6 HX.size (by omega)).mono ?_); rintro e' w9 ⟨s9, rfl, ho7, hb9, _⟩; have HX := HX.trans hb9))
    | (at_builtin; refine wpList_app _ rfl (.tmp 42) (.tmp 43) _ rfl w1.heap.size 5 i0 _ 1 1 Try.underlying22 hi hz0 hz1 hz2 rfl (by decide) _ _ _ rfl (ho7.alloc _) _ 1 _ ([0].map byteV) rfl (Rd.list (vs := [0].map byteV) (Blk.new_ _ _ _) rfl) (oneB [0]) (by unfold maxLen; omega) (by omega) (by have := HX.size; simp; omega) ?_; intro s10 w10 ho8 hg10 _; have HX := (HX.alloc HX.size _).trans (below_app (Nat.le_refl _) (by simp; have := HX.size; omega) (ho7.alloc _) hg10)))
  go_ret2
  refine ⟨_, rfl, own_mono (own_len ?_ (by rw [List.map_append]; exact ho8)) (by omega), HB1.trans (HX.mono (by omega))⟩
  omega
end Go.Proofs.Ytjmochkhdapmiaa
