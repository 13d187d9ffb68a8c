/- CrcParts: the walk. -/
import Derived.Test.YtgldagkhepekdaaCrcTells
import Derived.Test.YtgldagkhepekdaaLow
import Derived.Test.YtgldagkhepekdaaSl2
import Derived.Deep.AppendLies
import Derived.Deep.RegionHeld3
import Derived.Deep.DrawnRows
import Derived.Deep.DeepCutAuto
namespace Go.Proofs.Ytgldagkhepekdaa
open Go.ChangeShapes Go.WideShapes Go.ChangeAt Go.RowKit
attribute [local go_sem ↓] Go.wp_at_zero Go.wp_at_succ

theorem xorL_length : ∀ (xs ys : List Nat), xs.length = ys.length → (xorL xs ys).length = xs.length
  | [], [], _ => rfl
  | _ :: xs, _ :: ys, h => by simp [xorL, xorL_length xs ys (by simpa using h)]
  | [], _ :: _, h => by simp at h
  | _ :: _, [], h => by simp at h
theorem xorL_snoc : ∀ (xs ys : List Nat) (x y : Nat), xs.length = ys.length → xorL (xs ++ [x]) (ys ++ [y]) = xorL xs ys ++ [x ^^^ y]
  | [], [], _, _, _ => rfl
  | a :: xs, b :: ys, x, y, h => by simp [xorL, xorL_snoc xs ys x y (by simpa using h)]
  | [], _ :: _, _, _, h => by simp at h
  | _ :: _, [], _, _, h => by simp at h
theorem xorL8 : ∀ {xs ys : List Nat}, Bytes8 xs → Bytes8 ys → Bytes8 (xorL xs ys)
  | x :: xs, y :: ys, h, k => fun b hb => by
    rcases List.mem_cons.1 hb with rfl | hb
    · exact Nat.xor_lt_two_pow (n := 8) (h x (by simp)) (k y (by simp))
    · exact xorL8 (fun b hb => h b (by simp [hb])) (fun b hb => k b (by simp [hb])) b hb
  | [], _, _, _ => fun b hb => by simp [xorL] at hb
  | _ :: _, [], _, _ => fun b hb => by simp [xorL] at hb
theorem Bytes8.take_ {bs : List Nat} (h : Bytes8 bs) (k : Nat) : Bytes8 (bs.take k) := fun b hb => h b (List.mem_of_mem_take hb)
theorem Bytes8.drop_ {bs : List Nat} (h : Bytes8 bs) (k : Nat) : Bytes8 (bs.drop k) := fun b hb => h b (List.mem_of_mem_drop hb)
theorem zeros8 (k : Nat) : Bytes8 (List.replicate k 0) := fun b hb => by
  obtain ⟨_, rfl⟩ := List.mem_replicate.1 hb
  omega
theorem ne_flip {a b : Option Nat} (h : a = none ∨ a ≠ b) : b = none ∨ b ≠ a := by
  rcases h with rfl | h
  · cases b with
    | none => exact Or.inl rfl
    | some _ => exact Or.inr (by simp)
  · exact Or.inr (Ne.symm h)
theorem rows_apart {ub vb : Option Nat} {g H : Nat} (hne : ub = none ∨ ub ≠ vb) (hat : ub = some g ∨ g = H) (hv : ∀ j, vb = some j → j < H) : some g ≠ vb := by
  rintro rfl
  rcases hat with rfl | rfl
  · rcases hne with h | h
    · cases h
    · exact h rfl
  · exact absurd (hv _ rfl) (by omega)
theorem byte_cells {w : World} {t : TypeId} (v : Value) : ∀ j u, [v][j]? = some u → (w.alloc (.cells #[v] t)).cell? ((⟨w.heap.size, 0, none⟩ : Addr).add j) = some u :=
  World.news_of_block (heap_alloc_new w (.cells #[v] t))
theorem one_cell (n : Nat) : ∀ u ∈ [byteV n], u.oneCell' = true := by
  intro u hu
  simp at hu
  subst hu
  rfl
theorem own_slice {w : World} {base : Nat} {e : TypeId} {v : Value} {n : Nat} {vs : List Value} (hown : w.ownsRow base e 1 v n vs) : ∃ X c, v = .slice X n c ∧ Sl w w.heap.size X vs := by
  have hl : vs.length = n := by simpa using hown.1
  rcases Joins.ownsRow_forms hown with ⟨rfl, h0⟩ | ⟨g, cap, rfl⟩
  · refine ⟨none, 0, by rw [h0], Or.inl (List.eq_nil_of_length_eq_zero (hl.trans h0))⟩
  · exact ⟨some ⟨g, 0, none⟩, cap, rfl, Sl.of_own hown⟩
theorem keep9 {w wr w' : World} {b1 b2 : Nat} (l1 : b1 < w.heap.size) (l2 : b2 < w.heap.size) (h0 : Below w.heap.size w wr) (h : Below w.heap.size w w') :
    Hid (Below w.heap.size w w') ∧ (∀ (o : Nat), w'.cell? ⟨b1, o, none⟩ = wr.cell? ⟨b1, o, none⟩) ∧ ∀ (o : Nat), w'.cell? ⟨b2, o, none⟩ = wr.cell? ⟨b2, o, none⟩ :=
  ⟨Lib.hid h, fun o => (h.cell (p := ⟨b1, o, none⟩) l1).trans (h0.cell (p := ⟨b1, o, none⟩) l1).symm, fun o => (h.cell (p := ⟨b2, o, none⟩) l2).trans (h0.cell (p := ⟨b2, o, none⟩) l2).symm⟩
theorem xor_four (m r s t : Nat) : m ^^^ (r ^^^ s ^^^ t) = (m ^^^ r) ^^^ (m ^^^ s) ^^^ (m ^^^ t) := by
  refine Nat.eq_of_testBit_eq fun i => ?_
  simp only [Nat.testBit_xor]
  cases (Nat.testBit m i) <;> cases (Nat.testBit r i) <;> cases (Nat.testBit s i) <;> cases (Nat.testBit t i) <;> rfl
theorem xor_three (m : Nat) : m ^^^ m ^^^ m = m := by rw [Nat.xor_self, Nat.zero_xor]
theorem xorL_zeros : ∀ (xs : List Nat), xorL xs (List.replicate xs.length 0) = xs
  | [] => rfl
  | x :: xs => by
    show (x ^^^ 0) :: xorL xs (List.replicate xs.length 0) = _
    rw [Nat.xor_zero, xorL_zeros xs]
theorem crc_three (bs cs : List Nat) (h : bs.length = cs.length) : crcMore 0 (xorL bs cs) = crcMore 0 bs ^^^ crcMore 0 cs ^^^ crcMore 0 (List.replicate bs.length 0) := by
  have hl := xorL_length bs cs h
  have h1 := crcReg_xor (xorL bs cs) (List.replicate bs.length 0) (4294967295 ^^^ 4294967295) 4294967295 (by simp [hl])
  rw [crcReg_xor bs cs _ _ h] at h1
  have h2 : xorL (xorL bs cs) (List.replicate bs.length 0) = xorL bs cs := by
    rw [← hl]
    exact xorL_zeros _
  rw [h2, xor_three] at h1
  unfold crcMore
  rw [Nat.xor_zero, h1]
  exact xor_four _ _ _ _
theorem Sl.take_ {w : World} {B : Nat} {A : Option Addr} {vs : List Value} (h : Sl w B A vs) (a : Nat) : Sl w B A (vs.take a) := by
  rcases h with h | ⟨b, off, e, hlt, hc⟩
  · exact Or.inl (by simp [h])
  · exact Or.inr ⟨b, off, e, hlt, fun k v hv => hc k v (by
      rw [List.getElem?_take] at hv
      split at hv
      · exact hv
      · cases hv)⟩
theorem Sl.drop_ {w : World} {B : Nat} {A : Option Addr} {vs : List Value} (h : Sl w B A vs) (a c : Nat) (hc : vs.length ≤ c) : Sl w B (if c = a then A else Option.map (fun x => x.add a) A) (vs.drop a) := by
  rcases Nat.lt_or_ge a vs.length with hlt | hge
  · rw [if_neg (by omega)]
    obtain ⟨b, off, rfl, hb, q⟩ := h.at_ (by omega)
    exact Or.inr ⟨b, off + a, by simp [add_plain], hb, fun k v hv => by
      rw [List.getElem?_drop] at hv
      rw [Nat.add_assoc]
      exact q _ _ hv⟩
  · exact Or.inl (List.drop_eq_nil_of_le hge)
theorem crcOf_n (bs : List Nat) (n : Nat) (A : Option Addr) (c : Nat) (w : World) (hn : n = bs.length) (h1 : Sl w w.heap.size A (bs.map byteV)) (h8 : Bytes8 bs) (n1 : bs.length ≤ 1000000000) :
    Calls Try.prog 8 #[.slice A n c] w fun e w' => e = .returned (.int .u32 (crcMore 0 bs : Nat)) ∧ w' = w := by
  subst hn
  exact crcOf_any bs A c w h1 h8 n1
theorem more_n (s : Nat) (bs : List Nat) (n : Nat) (A : Option Addr) (c : Nat) (w : World) (hn : n = bs.length) (hs : s < 4294967296) (h1 : Sl w w.heap.size A (bs.map byteV)) (h8 : Bytes8 bs) (n1 : bs.length ≤ 1000000000) :
    Calls Try.prog 10 #[.int .u32 (s : Int), .slice A n c] w fun e w' => e = .returned (.int .u32 (crcMore s bs : Nat)) ∧ w' = w := by
  subst hn
  exact more_any s bs A c w hs h1 h8 n1
theorem xor8 {x y : Nat} (hx : x < 256) (hy : y < 256) : bits .xor .u8 (x : Int) (y : Int) = ((x ^^^ y : Nat) : Int) := u8_xor_nat x y hx hy


set_option maxRecDepth 100000 in
set_option maxHeartbeats 8000000 in
theorem crcparts_a (A : Option Addr) (c : Nat) (bs : List Nat) (z : Int) (B : Option Addr) (d : Nat) (cs : List Nat) (w : World) (h1 : Sl w w.heap.size A (bs.map byteV)) (hc : bs.length ≤ c) (hA' : RowKit.Hid (A = none → bs.length = 0 ∧ c = 0)) (h80 : Bytes8 bs) (h2 : Sl w w.heap.size B (cs.map byteV)) (hd : cs.length ≤ d) (hB' : RowKit.Hid (B = none → cs.length = 0 ∧ d = 0)) (h82 : Bytes8 cs)
    (hl : bs.length ≤ 300) (hl2 : cs.length ≤ 300) (hle : ¬ cs.length < bs.length) :
    Calls Try.prog 4 #[.slice A bs.length c, .int .i64 z, .slice B cs.length d] w fun e w' => e = .returned (.bool true) ∧ Below w.heap.size w w' := by
  obtain ⟨i0, hi, hz0, hz1, hz2⟩ := info_parts infoByte
  obtain ⟨a, ha, ha2⟩ : ∃ a : Nat, lowI z ((bs.length : Int) + 1) = (a : Int) ∧ a ≤ bs.length := by
    have := lowI_bd z ((bs.length : Int) + 1) (by omega)
    exact ⟨(lowI z ((bs.length : Int) + 1)).toNat, by omega, by omega⟩
  go_enter Try.func4, Try.ntmps4
  go_wp2_with (go_at_call 13; refine (low_any _ _ _ (by omega) (by omega)).mono ?_; rintro e w' ⟨rfl, rfl⟩)
  go_loopw [8, 9, 10] (fun xv zv i wr => ∃ k : Nat, k ≤ bs.length ∧ i = .int .i64 k ∧ wr.ownsRow w.heap.size 5 1 xv k ((xorL (bs.take k) (cs.take k)).map byteV) ∧ wr.ownsRow w.heap.size 5 1 zv k ((List.replicate k 0).map byteV) ∧ Hid (xv.ownBlock = none ∨ xv.ownBlock ≠ zv.ownBlock) ∧ Below w.heap.size w wr) (fun _ _ i _ => bs.length - (intOf i).toNat)
  case atStart => exact ⟨0, Nat.zero_le _, rfl, World.ownsRow_nil _ _ _ _, World.ownsRow_nil _ _ _ _, Or.inl rfl, Below.refl _ _⟩
  case round =>
    obtain ⟨k, hk, rfl, ox, oz, hne, hB0⟩ := hrel
    by_cases hlt : k < bs.length
    · obtain ⟨b1, o1, rfl, l1, q1⟩ := (h1.below hB0).at_ (by simpa using (by omega : 0 < bs.length))
      obtain ⟨b2, o2, rfl, l2, q2⟩ := (h2.below hB0).at_ (by simpa using (by omega : 0 < cs.length))
      have hx := h80.at_ k
      have hy := h82.at_ k
      obtain ⟨x, hxe⟩ : ∃ x, bs.getD k 0 = x := ⟨_, rfl⟩
      obtain ⟨y, hye⟩ : ∃ x, cs.getD k 0 = x := ⟨_, rfl⟩
      have kb : k < bs.length := by omega
      have kc : k < cs.length := by omega
      have cx : wr.cell? ⟨b1, o1 + k, none⟩ = some (.int .u8 (x : Int)) := q1 k _ (by rw [← hxe]; simp [kb, byteV])
      have cy : wr.cell? ⟨b2, o2 + k, none⟩ = some (.int .u8 (y : Int)) := q2 k _ (by rw [← hye]; simp [kc, byteV])
      rw [hxe] at hx
      rw [hye] at hy
      have hsn : (xorL (bs.take (k + 1)) (cs.take (k + 1))).map byteV = (xorL (bs.take k) (cs.take k)).map byteV ++ [byteV (x ^^^ y)] := by
        rw [List.take_succ_eq_append_getElem kb, List.take_succ_eq_append_getElem kc, xorL_snoc _ _ _ _ (by simp; omega), List.map_append]
        have e1 : bs[k] = x := by rw [← hxe]; simp [kb]
        have e2 : cs[k] = y := by rw [← hye]; simp [kc]
        rw [e1, e2]
        rfl
      have Hsn := Lib.hid hsn
      have hxy := xor8 hx hy
      clear hxe hye q1 q2 hsn
      have i1 : (0 : Int) ≤ (k : Int) := by omega
      have i2 : (k : Int) < (bs.length : Int) := by omega
      have i3 : (k : Int) < (cs.length : Int) := by omega
      have hsz := hB0.size
      go_wp2_with fail
      have ox1 := ox.drew
      have oz1 := oz.drew
      have hB1 : Below w.heap.size w wr.drew := below_dn hB0 1
      have hne' := hne
      have hsz2 := hB1.size
      have l1' : b1 < wr.heap.size := by omega
      have l2' : b2 < wr.heap.size := by omega
      refine wp_region_noPanic ?_
      refine wp_region_held_drew (S := (fun w' => RowKit.Hid (Below w.heap.size w w') ∧ (∀ (o : Nat), w'.cell? ⟨b1, o, none⟩ = wr.cell? ⟨b1, o, none⟩) ∧ ∀ (o : Nat), w'.cell? ⟨b2, o, none⟩ = wr.cell? ⟨b2, o, none⟩)) (by kernel_rfl) ?_ (fun hHeld => ?_)
      · (first | exact keep9 l1 l2 hB0 hB1 | exact keep9 l1 l2 hB0 (hB1.alloc hsz2 _) | exact keep9 l1 l2 hB0 hB3 | assumption)
      refine wpAnyH_take (i := 0) (oi := { dst := some 35, op := Op.move (Operand.tmp 8), type := 22, pos := "law.go:33", after := #[], guard := none }) (v := ?_) rfl (by kernel_rfl) (by kernel_rfl) (by kernel_rfl) (fun _ _ _ h => h) (Or.inl ⟨by rfl, ?_⟩) (by assumption) ?_
      rotate_left
      · (intro wS hSw; (try dsimp only at hSw); go_simp; (try with_reducible rfl))
      try simp only [Act.put, List.setIfInBounds_toArray, List.set_cons_zero, List.set_cons_succ]
      refine wpAnyH_take (i := 1) (oi := { dst := some 36, op := Op.move (Operand.tmp 0), type := 22, pos := "law.go:33", after := #[], guard := none }) (v := ?_) rfl (by kernel_rfl) (by kernel_rfl) (by kernel_rfl) (fun _ _ _ h => h) (Or.inl ⟨by rfl, ?_⟩) (by assumption) ?_
      rotate_left
      · (intro wS hSw; (try dsimp only at hSw); go_simp; (try with_reducible rfl))
      try simp only [Act.put, List.setIfInBounds_toArray, List.set_cons_zero, List.set_cons_succ]
      refine wpAnyH_take (i := 2) (oi := { dst := some 37, op := Op.move (Operand.tmp 10), type := 3, pos := "law.go:33", after := #[], guard := none }) (v := ?_) rfl (by kernel_rfl) (by kernel_rfl) (by kernel_rfl) (fun _ _ _ h => h) (Or.inl ⟨by rfl, ?_⟩) (by assumption) ?_
      rotate_left
      · (intro wS hSw; (try dsimp only at hSw); go_simp; (try with_reducible rfl))
      try simp only [Act.put, List.setIfInBounds_toArray, List.set_cons_zero, List.set_cons_succ]
      refine wpAnyH_take (i := 3) (oi := { dst := some 38, op := Op.indexAddr 22 (Operand.tmp 36) (Operand.tmp 37), type := 0, pos := "law.go:33", after := #[{ on := 1, ground := Ground.data }, { on := 2, ground := Ground.data }], guard := none }) (v := ?_) rfl (by kernel_rfl) (by kernel_rfl) (by kernel_rfl) (fun _ _ _ h => h) (Or.inl ⟨by rfl, ?_⟩) (by assumption) ?_
      rotate_left
      · (intro wS hSw; (try dsimp only at hSw); go_simp; (try with_reducible rfl))
      try simp only [Act.put, List.setIfInBounds_toArray, List.set_cons_zero, List.set_cons_succ]
      refine wpAnyH_take (i := 4) (oi := { dst := some 39, op := Op.load 5 (Operand.tmp 38), type := 5, pos := "law.go:33", after := #[{ on := 3, ground := Ground.data }], guard := none }) (v := ?_) rfl (by kernel_rfl) (by kernel_rfl) (by kernel_rfl) (fun _ _ _ h => h) (Or.inl ⟨by rfl, ?_⟩) (by assumption) ?_
      rotate_left
      · (intro wS hSw; (try dsimp only at hSw); go_simp; (try with_reducible rfl))
      try simp only [Act.put, List.setIfInBounds_toArray, List.set_cons_zero, List.set_cons_succ]
      refine wpAnyH_take (i := 5) (oi := { dst := some 40, op := Op.move (Operand.tmp 2), type := 22, pos := "law.go:33", after := #[], guard := none }) (v := ?_) rfl (by kernel_rfl) (by kernel_rfl) (by kernel_rfl) (fun _ _ _ h => h) (Or.inl ⟨by rfl, ?_⟩) (by assumption) ?_
      rotate_left
      · (intro wS hSw; (try dsimp only at hSw); go_simp; (try with_reducible rfl))
      try simp only [Act.put, List.setIfInBounds_toArray, List.set_cons_zero, List.set_cons_succ]
      refine wpAnyH_take (i := 6) (oi := { dst := some 41, op := Op.move (Operand.tmp 10), type := 3, pos := "law.go:33", after := #[], guard := none }) (v := ?_) rfl (by kernel_rfl) (by kernel_rfl) (by kernel_rfl) (fun _ _ _ h => h) (Or.inl ⟨by rfl, ?_⟩) (by assumption) ?_
      rotate_left
      · (intro wS hSw; (try dsimp only at hSw); go_simp; (try with_reducible rfl))
      try simp only [Act.put, List.setIfInBounds_toArray, List.set_cons_zero, List.set_cons_succ]
      refine wpAnyH_take (i := 7) (oi := { dst := some 42, op := Op.indexAddr 22 (Operand.tmp 40) (Operand.tmp 41), type := 0, pos := "law.go:33", after := #[{ on := 5, ground := Ground.data }, { on := 6, ground := Ground.data }], guard := none }) (v := ?_) rfl (by kernel_rfl) (by kernel_rfl) (by kernel_rfl) (fun _ _ _ h => h) (Or.inl ⟨by rfl, ?_⟩) (by assumption) ?_
      rotate_left
      · (intro wS hSw; (try dsimp only at hSw); go_simp; (try with_reducible rfl))
      try simp only [Act.put, List.setIfInBounds_toArray, List.set_cons_zero, List.set_cons_succ]
      refine wpAnyH_take (i := 8) (oi := { dst := some 43, op := Op.load 5 (Operand.tmp 42), type := 5, pos := "law.go:33", after := #[{ on := 7, ground := Ground.data }], guard := none }) (v := ?_) rfl (by kernel_rfl) (by kernel_rfl) (by kernel_rfl) (fun _ _ _ h => h) (Or.inl ⟨by rfl, ?_⟩) (by assumption) ?_
      rotate_left
      · (intro wS hSw; (try dsimp only at hSw); go_simp; (try with_reducible rfl))
      try simp only [Act.put, List.setIfInBounds_toArray, List.set_cons_zero, List.set_cons_succ]
      refine wpAnyH_take (i := 9) (oi := { dst := some 44, op := Op.binOp BinOp.xor 5 (Operand.tmp 39) (Operand.tmp 43) 5, type := 5, pos := "law.go:33", after := #[{ on := 4, ground := Ground.data }, { on := 8, ground := Ground.data }], guard := none }) (v := ?_) rfl (by kernel_rfl) (by kernel_rfl) (by kernel_rfl) (fun _ _ _ h => h) (Or.inl ⟨by rfl, ?_⟩) (by assumption) ?_
      rotate_left
      · (intro wS hSw; (try dsimp only at hSw); go_simp; (try with_reducible rfl))
      try simp only [Act.put, List.setIfInBounds_toArray, List.set_cons_zero, List.set_cons_succ]
      refine wpAnyH_ready (rs := [10]) (by kernel_rfl) (by simp) ?_
      refine AllReadyH.cons (o := { dst := some 45, op := Op.buildSlice 22 1 #[(0, Operand.tmp 44)], type := 22, pos := "law.go:33", after := #[{ on := 9, ground := Ground.data }], guard := none }) rfl (fun K hK => ?_) AllReadyH.nil
      go_simp
      refine hK.out _ _ ?_ (fun hNew => ?_)
      · (first | exact keep9 l1 l2 hB0 hB1 | exact keep9 l1 l2 hB0 (hB1.alloc hsz2 _) | exact keep9 l1 l2 hB0 hB3 | assumption)
      clear hK K hHeld
      have hHeld := hNew
      clear hNew
      try simp only [Act.put, List.setIfInBounds_toArray, List.set_cons_zero, List.set_cons_succ]
      refine wpAnyH_ready (rs := [11]) (by kernel_rfl) (by simp) ?_
      refine AllReadyH.cons (o := { dst := some 46, op := Op.call { callee := Callee.builtin Builtin.append, args := #[Operand.tmp 35, Operand.tmp 45], argTypes := #[22, 22] }, type := 22, pos := "law.go:33", after := #[{ on := 0, ground := Ground.data }, { on := 10, ground := Ground.data }], guard := none }) rfl (fun K hK => ?_) AllReadyH.nil
      refine step_append_lies _ rfl _ _ 22 rfl w.heap.size 5 i0 (.int .u8 0) 1 1 Try.underlying22 hi hz0 hz1 hz2 rfl (by decide) u8 k _ rfl (ox1.alloc _) ⟨wr.heap.size, 0, none⟩ 1 1 [byteV (x ^^^ y)] rfl rfl (byte_cells (w := wr.drew) _) (one_cell _) (by decide) (by unfold maxLen; omega) (by omega) (by simp; omega) _ rfl ?_
      intro g cap w3 hown hgrow hat hlt3
      have oz3 := (oz1.alloc (.cells #[byteV (x ^^^ y)] 5)).kept hgrow (ne_flip hne')
      have hap := rows_apart hne' hat (fun j hj => ((oz1.alloc (.cells #[byteV (x ^^^ y)] 5)).lt j hj).2)
      have hB3 := (hB1.alloc hsz2 (.cells #[byteV (x ^^^ y)] 5)).grown hgrow (by simp; omega) (fun j hj => (ox1.lt j hj).1)
      have hsz3 := hB3.size
      refine hK.out _ _ ?_ (fun hNew => ?_)
      · (first | exact keep9 l1 l2 hB0 hB1 | exact keep9 l1 l2 hB0 (hB1.alloc hsz2 _) | exact keep9 l1 l2 hB0 hB3 | assumption)
      clear hK K hHeld
      have hHeld := hNew
      clear hNew
      try simp only [Act.put, List.setIfInBounds_toArray, List.set_cons_zero, List.set_cons_succ]
      refine wpAnyH_take (i := 12) (oi := { dst := some 8, op := Op.assign (Operand.tmp 46), type := 22, pos := "law.go:33", after := #[{ on := 11, ground := Ground.data }, { on := 11, ground := Ground.chain }, { on := 0, ground := Ground.phase }, { on := 1, ground := Ground.phase }, { on := 2, ground := Ground.phase }, { on := 3, ground := Ground.phase }, { on := 4, ground := Ground.phase }, { on := 5, ground := Ground.phase }, { on := 6, ground := Ground.phase }, { on := 7, ground := Ground.phase }, { on := 8, ground := Ground.phase }, { on := 9, ground := Ground.phase }, { on := 10, ground := Ground.phase }, { on := 11, ground := Ground.phase }], guard := none }) (v := ?_) rfl (by kernel_rfl) (by kernel_rfl) (by kernel_rfl) (fun _ _ _ h => h) (Or.inl ⟨by rfl, ?_⟩) (by assumption) ?_
      rotate_left
      · (intro wS hSw; (try dsimp only at hSw); go_simp; (try with_reducible rfl))
      try simp only [Act.put, List.setIfInBounds_toArray, List.set_cons_zero, List.set_cons_succ]
      refine wpAnyH_done (by kernel_rfl) ?_ _
      refine NoPanic.normal ?_
      clear ox oz ox1 oz1
      go_wp2_with (first
        | (at_builtin; refine wpList_append_lies _ rfl _ _ 22 rfl w.heap.size 5 i0 (.int .u8 0) 1 1 Try.underlying22 hi hz0 hz1 hz2 rfl (by decide) u9 k _ rfl (oz3.alloc _) ⟨w3.heap.size, 0, none⟩ 1 1 [byteV 0] rfl rfl (byte_cells _) (one_cell _) (by decide) (by unfold maxLen; omega) (by omega) (by simp; omega) _ rfl ?_; intro g2 cap2 w4 hown2 hgrow2 hat2 hlt4; have ox4 := (hown.alloc (.cells #[byteV 0] 5)).kept hgrow2 (Or.inr hap); have hap2 := rows_apart (ne_flip (Or.inr hap)) hat2 (fun j hj => ((hown.alloc (.cells #[byteV 0] 5)).lt j hj).2); have hB4 := (hB3.alloc hsz3 (.cells #[byteV 0] 5)).grown hgrow2 (by simp; omega) (fun j hj => (oz3.lt j hj).1)))
      refine ⟨⟨k + 1, by omega, by go_num, by rw [Hsn.out]; exact ox4, by rw [List.replicate_succ', List.map_append]; exact hown2, Or.inr (by intro h; exact hap2 h.symm), hB4⟩, by simp [intOf]; omega⟩
    · have hkN : k = bs.length := by omega
      subst hkN
      obtain ⟨X, cx, rfl, sx⟩ := own_slice ox
      obtain ⟨Z, cz, rfl, sz⟩ := own_slice oz
      have sb := h1.next hB0
      have sc := h2.next hB0
      clear ox oz hne h1 h2
      have hac : a ≤ c := by omega
      have hNc : bs.length ≤ c := by omega
      have hNd : bs.length ≤ d := by omega
      have tb : (bs.take (bs.length)).length = bs.length := by simp <;> omega
      have tc : (cs.take (bs.length)).length = bs.length := by simp <;> omega
      have hx8 := xorL8 (h80.take_ (bs.length)) (h82.take_ (bs.length))
      have tx : (xorL (bs.take (bs.length)) (cs.take (bs.length))).length = bs.length := (xorL_length _ _ (tb.trans tc.symm)).trans tb
      have e3 := crc_three (bs.take (bs.length)) (cs.take (bs.length)) (tb.trans tc.symm)
      rw [tb] at e3
      obtain ⟨S1, hS1⟩ : ∃ x, crcMore 0 bs = x := ⟨_, rfl⟩
      obtain ⟨Sa, hSa⟩ : ∃ x, crcMore 0 (bs.take a) = x := ⟨_, rfl⟩
      have ha1 : crcMore Sa (bs.drop a) = S1 := by rw [← hSa, crcMore_more, List.take_append_drop, hS1]
      have bSa : Sa < 4294967296 := by rw [← hSa]; exact crcMore_lt (by omega)
      obtain ⟨S2, hS2⟩ : ∃ x, crcMore 0 (bs.take (bs.length)) = x := ⟨_, rfl⟩
      obtain ⟨S3, hS3⟩ : ∃ x, crcMore 0 (cs.take (bs.length)) = x := ⟨_, rfl⟩
      obtain ⟨S4, hS4⟩ : ∃ x, crcMore 0 (List.replicate (bs.length) 0) = x := ⟨_, rfl⟩
      obtain ⟨S5, hS5⟩ : ∃ x, crcMore 0 (xorL (bs.take (bs.length)) (cs.take (bs.length))) = x := ⟨_, rfl⟩
      have b2' : S2 < 4294967296 := by rw [← hS2]; exact crcMore_lt (by omega)
      have b3' : S3 < 4294967296 := by rw [← hS3]; exact crcMore_lt (by omega)
      have b4' : S4 < 4294967296 := by rw [← hS4]; exact crcMore_lt (by omega)
      rw [hS5, hS2, hS3, hS4] at e3
      have x1 := u32_xor_nat S2 S3 b2' b3'
      have b5' : S2 ^^^ S3 < 4294967296 := Nat.xor_lt_two_pow (n := 32) b2' b3'
      obtain ⟨S6, hS6⟩ : ∃ x, S2 ^^^ S3 = x := ⟨_, rfl⟩
      rw [hS6] at e3 x1 b5'
      rw [(by rw [← hS2, ← hS1, List.take_length] : S2 = S1)] at x1
      have x2 := u32_xor_nat S6 S4 b5' b4'
      rw [← e3] at x2
      have J1 := Lib.hid hS1
      have Ja := Lib.hid hSa
      have Jb := Lib.hid ha1
      have J2 := Lib.hid hS2
      have J3 := Lib.hid hS3
      have J4 := Lib.hid hS4
      have J5 := Lib.hid hS5
      clear hS1 hSa ha1 hS2 hS3 hS4 hS5 hS6 e3
      have Tb := Lib.hid tb
      have Tc := Lib.hid tc
      have Tx := Lib.hid tx
      clear tb tc tx
      go_wp2_with fail
      refine wp_region_noPanic ?_
      refine wp_region_held_drew (S := (fun w' => Below w.heap.size w w' ∧ wr.heap.size ≤ w'.heap.size ∧ ∀ (k o : Nat), k < wr.heap.size → w'.cell? ⟨k, o, none⟩ = wr.cell? ⟨k, o, none⟩)) (by kernel_rfl) ?_ (fun hHeld => ?_)
      · (first | exact ⟨below_dn hB0 1, by simp, by simp⟩ | exact kept_step (by assumption) hb3 | assumption)
      refine wpAnyH_take (i := 0) (oi := { dst := some 50, op := Op.move (Operand.tmp 0), type := 22, pos := "law.go:36", after := #[], guard := none }) (v := ?_) rfl (by kernel_rfl) (by kernel_rfl) (by kernel_rfl) (fun _ _ _ h => h) (Or.inl ⟨by rfl, ?_⟩) (by assumption) ?_
      rotate_left
      · (intro wS hSw; (try dsimp only at hSw); go_simp; (try with_reducible rfl))
      try simp only [Act.put, List.setIfInBounds_toArray, List.set_cons_zero, List.set_cons_succ]
      refine wpAnyH_take (i := 1) (oi := { dst := some 51, op := Op.move (Operand.tmp 1), type := 3, pos := "law.go:36", after := #[], guard := none }) (v := ?_) rfl (by kernel_rfl) (by kernel_rfl) (by kernel_rfl) (fun _ _ _ h => h) (Or.inl ⟨by rfl, ?_⟩) (by assumption) ?_
      rotate_left
      · (intro wS hSw; (try dsimp only at hSw); go_simp; (try with_reducible rfl))
      try simp only [Act.put, List.setIfInBounds_toArray, List.set_cons_zero, List.set_cons_succ]
      refine wpAnyH_take (i := 2) (oi := { dst := some 52, op := Op.slice 22 (Operand.tmp 50) none (some (Operand.tmp 51)) none, type := 22, pos := "law.go:36", after := #[{ on := 0, ground := Ground.data }, { on := 1, ground := Ground.data }], guard := none }) (v := ?_) rfl (by kernel_rfl) (by kernel_rfl) (by kernel_rfl) (fun _ _ _ h => h) (Or.inl ⟨by rfl, ?_⟩) (by assumption) ?_
      rotate_left
      · (intro wS hSw; (try dsimp only at hSw); go_simp; (try with_reducible rfl))
      try simp only [Act.put, List.setIfInBounds_toArray, List.set_cons_zero, List.set_cons_succ]
      refine wpAnyH_take (i := 4) (oi := { dst := some 54, op := Op.move (Operand.tmp 0), type := 22, pos := "law.go:36", after := #[], guard := none }) (v := ?_) rfl (by kernel_rfl) (by kernel_rfl) (by kernel_rfl) (fun _ _ _ h => h) (Or.inl ⟨by rfl, ?_⟩) (by assumption) ?_
      rotate_left
      · (intro wS hSw; (try dsimp only at hSw); go_simp; (try with_reducible rfl))
      try simp only [Act.put, List.setIfInBounds_toArray, List.set_cons_zero, List.set_cons_succ]
      refine wpAnyH_take (i := 5) (oi := { dst := some 55, op := Op.move (Operand.tmp 1), type := 3, pos := "law.go:36", after := #[], guard := none }) (v := ?_) rfl (by kernel_rfl) (by kernel_rfl) (by kernel_rfl) (fun _ _ _ h => h) (Or.inl ⟨by rfl, ?_⟩) (by assumption) ?_
      rotate_left
      · (intro wS hSw; (try dsimp only at hSw); go_simp; (try with_reducible rfl))
      try simp only [Act.put, List.setIfInBounds_toArray, List.set_cons_zero, List.set_cons_succ]
      refine wpAnyH_take (i := 6) (oi := { dst := some 56, op := Op.slice 22 (Operand.tmp 54) (some (Operand.tmp 55)) none none, type := 22, pos := "law.go:36", after := #[{ on := 4, ground := Ground.data }, { on := 5, ground := Ground.data }], guard := none }) (v := ?_) rfl (by kernel_rfl) (by kernel_rfl) (by kernel_rfl) (fun _ _ _ h => h) (Or.inl ⟨by rfl, ?_⟩) (by assumption) ?_
      rotate_left
      · (intro wS hSw; (try dsimp only at hSw); go_simp; (try with_reducible rfl))
      try simp only [Act.put, List.setIfInBounds_toArray, List.set_cons_zero, List.set_cons_succ]
      refine wpAnyH_take (i := 8) (oi := { dst := some 58, op := Op.move (Operand.tmp 0), type := 22, pos := "law.go:36", after := #[], guard := none }) (v := ?_) rfl (by kernel_rfl) (by kernel_rfl) (by kernel_rfl) (fun _ _ _ h => h) (Or.inl ⟨by rfl, ?_⟩) (by assumption) ?_
      rotate_left
      · (intro wS hSw; (try dsimp only at hSw); go_simp; (try with_reducible rfl))
      try simp only [Act.put, List.setIfInBounds_toArray, List.set_cons_zero, List.set_cons_succ]
      refine wpAnyH_ready (rs := [3]) (by kernel_rfl) (by simp) ?_
      refine AllReadyH.cons (o := { dst := some 53, op := Op.call { callee := Callee.value (Operand.func 8), args := #[Operand.tmp 52], argTypes := #[22] }, type := 23, pos := "law.go:36", after := #[{ on := 2, ground := Ground.data }], guard := none }) rfl (fun K hK => ?_) AllReadyH.nil
      go_simp
      (first
          | (go_at_call 6; refine (crcAwake_any _).mono ?_; rintro e' w3 ⟨rfl, hb3⟩)
          | (go_at_call 10; refine (more_n Sa (bs.drop a) _ _ _ _ (by simp) bSa (by rw [List.map_drop]; exact (sb.held hHeld.2.1 hHeld.2.2).drop_ a c (by simpa using hc)) (h80.drop_ a) (by simp; omega)).mono ?_; rw [Jb.out]; rintro e' w' ⟨rfl, rfl⟩)
          | (go_at_call 8; ((with_reducible refine (crcOf_n (bs.take a) (a) A c _ (by simp; omega) (by rw [List.map_take]; exact (sb.held hHeld.2.1 hHeld.2.2).take_ a) (h80.take_ a) (by first | omega | (simp; omega) | (rw [Tx.out]; omega))).mono ?_); rw [Ja.out]; rintro e' w' ⟨rfl, rfl⟩))
          | (go_at_call 8; ((with_reducible refine (crcOf_n bs (bs.length) A c _ rfl (sb.held hHeld.2.1 hHeld.2.2) h80 (by first | omega | (simp; omega) | (rw [Tx.out]; omega))).mono ?_); rw [J1.out]; rintro e' w' ⟨rfl, rfl⟩))
          | (go_at_call 8; ((with_reducible refine (crcOf_n (xorL (bs.take (bs.length)) (cs.take (bs.length))) (bs.length) X cx _ Tx.out.symm (sx.held hHeld.2.1 hHeld.2.2) hx8 (by first | omega | (simp; omega) | (rw [Tx.out]; omega))).mono ?_); rw [J5.out]; rintro e' w' ⟨rfl, rfl⟩))
          | (go_at_call 8; ((with_reducible refine (crcOf_n (bs.take (bs.length)) (bs.length) A c _ Tb.out.symm (by rw [List.map_take]; exact (sb.held hHeld.2.1 hHeld.2.2).take_ _) (h80.take_ _) (by first | omega | (simp; omega) | (rw [Tx.out]; omega))).mono ?_); rw [J2.out]; rintro e' w' ⟨rfl, rfl⟩))
          | (go_at_call 8; ((with_reducible refine (crcOf_n (cs.take (bs.length)) (bs.length) B d _ Tc.out.symm (by rw [List.map_take]; exact (sc.held hHeld.2.1 hHeld.2.2).take_ _) (h82.take_ _) (by first | omega | (simp; omega) | (rw [Tx.out]; omega))).mono ?_); rw [J3.out]; rintro e' w' ⟨rfl, rfl⟩))
          | (go_at_call 8; ((with_reducible refine (crcOf_n (List.replicate (bs.length) 0) (bs.length) Z cz _ (by simp) (sz.held hHeld.2.1 hHeld.2.2) (zeros8 _) (by first | omega | (simp; omega) | (rw [Tx.out]; omega))).mono ?_); rw [J4.out]; rintro e' w' ⟨rfl, rfl⟩)))
      go_simp
      refine hK.out _ _ ?_ (fun hNew => ?_)
      · (first | exact ⟨below_dn hB0 1, by simp, by simp⟩ | exact kept_step (by assumption) hb3 | assumption)
      clear hK K hHeld
      have hHeld := hNew
      clear hNew
      try simp only [Act.put, List.setIfInBounds_toArray, List.set_cons_zero, List.set_cons_succ]
      refine wpAnyH_ready (rs := [7]) (by kernel_rfl) (by simp) ?_
      refine AllReadyH.cons (o := { dst := some 57, op := Op.call { callee := Callee.value (Operand.func 10), args := #[Operand.tmp 53, Operand.tmp 56], argTypes := #[23, 22] }, type := 23, pos := "law.go:36", after := #[{ on := 3, ground := Ground.data }, { on := 6, ground := Ground.data }, { on := 3, ground := Ground.chain }], guard := none }) rfl (fun K hK => ?_) AllReadyH.nil
      go_simp
      (first
          | (go_at_call 6; refine (crcAwake_any _).mono ?_; rintro e' w3 ⟨rfl, hb3⟩)
          | (go_at_call 10; refine (more_n Sa (bs.drop a) _ _ _ _ (by simp) bSa (by rw [List.map_drop]; exact (sb.held hHeld.2.1 hHeld.2.2).drop_ a c (by simpa using hc)) (h80.drop_ a) (by simp; omega)).mono ?_; rw [Jb.out]; rintro e' w' ⟨rfl, rfl⟩)
          | (go_at_call 8; ((with_reducible refine (crcOf_n (bs.take a) (a) A c _ (by simp; omega) (by rw [List.map_take]; exact (sb.held hHeld.2.1 hHeld.2.2).take_ a) (h80.take_ a) (by first | omega | (simp; omega) | (rw [Tx.out]; omega))).mono ?_); rw [Ja.out]; rintro e' w' ⟨rfl, rfl⟩))
          | (go_at_call 8; ((with_reducible refine (crcOf_n bs (bs.length) A c _ rfl (sb.held hHeld.2.1 hHeld.2.2) h80 (by first | omega | (simp; omega) | (rw [Tx.out]; omega))).mono ?_); rw [J1.out]; rintro e' w' ⟨rfl, rfl⟩))
          | (go_at_call 8; ((with_reducible refine (crcOf_n (xorL (bs.take (bs.length)) (cs.take (bs.length))) (bs.length) X cx _ Tx.out.symm (sx.held hHeld.2.1 hHeld.2.2) hx8 (by first | omega | (simp; omega) | (rw [Tx.out]; omega))).mono ?_); rw [J5.out]; rintro e' w' ⟨rfl, rfl⟩))
          | (go_at_call 8; ((with_reducible refine (crcOf_n (bs.take (bs.length)) (bs.length) A c _ Tb.out.symm (by rw [List.map_take]; exact (sb.held hHeld.2.1 hHeld.2.2).take_ _) (h80.take_ _) (by first | omega | (simp; omega) | (rw [Tx.out]; omega))).mono ?_); rw [J2.out]; rintro e' w' ⟨rfl, rfl⟩))
          | (go_at_call 8; ((with_reducible refine (crcOf_n (cs.take (bs.length)) (bs.length) B d _ Tc.out.symm (by rw [List.map_take]; exact (sc.held hHeld.2.1 hHeld.2.2).take_ _) (h82.take_ _) (by first | omega | (simp; omega) | (rw [Tx.out]; omega))).mono ?_); rw [J3.out]; rintro e' w' ⟨rfl, rfl⟩))
          | (go_at_call 8; ((with_reducible refine (crcOf_n (List.replicate (bs.length) 0) (bs.length) Z cz _ (by simp) (sz.held hHeld.2.1 hHeld.2.2) (zeros8 _) (by first | omega | (simp; omega) | (rw [Tx.out]; omega))).mono ?_); rw [J4.out]; rintro e' w' ⟨rfl, rfl⟩)))
      go_simp
      refine hK.out _ _ ?_ (fun hNew => ?_)
      · (first | exact ⟨below_dn hB0 1, by simp, by simp⟩ | exact kept_step (by assumption) hb3 | assumption)
      clear hK K hHeld
      have hHeld := hNew
      clear hNew
      try simp only [Act.put, List.setIfInBounds_toArray, List.set_cons_zero, List.set_cons_succ]
      refine wpAnyH_ready (rs := [9]) (by kernel_rfl) (by simp) ?_
      refine AllReadyH.cons (o := { dst := some 59, op := Op.call { callee := Callee.value (Operand.func 8), args := #[Operand.tmp 58], argTypes := #[22] }, type := 23, pos := "law.go:36", after := #[{ on := 8, ground := Ground.data }, { on := 7, ground := Ground.chain }], guard := none }) rfl (fun K hK => ?_) AllReadyH.nil
      go_simp
      (first
          | (go_at_call 6; refine (crcAwake_any _).mono ?_; rintro e' w3 ⟨rfl, hb3⟩)
          | (go_at_call 10; refine (more_n Sa (bs.drop a) _ _ _ _ (by simp) bSa (by rw [List.map_drop]; exact (sb.held hHeld.2.1 hHeld.2.2).drop_ a c (by simpa using hc)) (h80.drop_ a) (by simp; omega)).mono ?_; rw [Jb.out]; rintro e' w' ⟨rfl, rfl⟩)
          | (go_at_call 8; ((with_reducible refine (crcOf_n (bs.take a) (a) A c _ (by simp; omega) (by rw [List.map_take]; exact (sb.held hHeld.2.1 hHeld.2.2).take_ a) (h80.take_ a) (by first | omega | (simp; omega) | (rw [Tx.out]; omega))).mono ?_); rw [Ja.out]; rintro e' w' ⟨rfl, rfl⟩))
          | (go_at_call 8; ((with_reducible refine (crcOf_n bs (bs.length) A c _ rfl (sb.held hHeld.2.1 hHeld.2.2) h80 (by first | omega | (simp; omega) | (rw [Tx.out]; omega))).mono ?_); rw [J1.out]; rintro e' w' ⟨rfl, rfl⟩))
          | (go_at_call 8; ((with_reducible refine (crcOf_n (xorL (bs.take (bs.length)) (cs.take (bs.length))) (bs.length) X cx _ Tx.out.symm (sx.held hHeld.2.1 hHeld.2.2) hx8 (by first | omega | (simp; omega) | (rw [Tx.out]; omega))).mono ?_); rw [J5.out]; rintro e' w' ⟨rfl, rfl⟩))
          | (go_at_call 8; ((with_reducible refine (crcOf_n (bs.take (bs.length)) (bs.length) A c _ Tb.out.symm (by rw [List.map_take]; exact (sb.held hHeld.2.1 hHeld.2.2).take_ _) (h80.take_ _) (by first | omega | (simp; omega) | (rw [Tx.out]; omega))).mono ?_); rw [J2.out]; rintro e' w' ⟨rfl, rfl⟩))
          | (go_at_call 8; ((with_reducible refine (crcOf_n (cs.take (bs.length)) (bs.length) B d _ Tc.out.symm (by rw [List.map_take]; exact (sc.held hHeld.2.1 hHeld.2.2).take_ _) (h82.take_ _) (by first | omega | (simp; omega) | (rw [Tx.out]; omega))).mono ?_); rw [J3.out]; rintro e' w' ⟨rfl, rfl⟩))
          | (go_at_call 8; ((with_reducible refine (crcOf_n (List.replicate (bs.length) 0) (bs.length) Z cz _ (by simp) (sz.held hHeld.2.1 hHeld.2.2) (zeros8 _) (by first | omega | (simp; omega) | (rw [Tx.out]; omega))).mono ?_); rw [J4.out]; rintro e' w' ⟨rfl, rfl⟩)))
      go_simp
      refine hK.out _ _ ?_ (fun hNew => ?_)
      · (first | exact ⟨below_dn hB0 1, by simp, by simp⟩ | exact kept_step (by assumption) hb3 | assumption)
      clear hK K hHeld
      have hHeld := hNew
      clear hNew
      try simp only [Act.put, List.setIfInBounds_toArray, List.set_cons_zero, List.set_cons_succ]
      refine wpAnyH_take (i := 10) (oi := { dst := some 60, op := Op.binOp BinOp.eql 23 (Operand.tmp 57) (Operand.tmp 59) 23, type := 4, pos := "law.go:36", after := #[{ on := 7, ground := Ground.data }, { on := 9, ground := Ground.data }], guard := none }) (v := ?_) rfl (by kernel_rfl) (by kernel_rfl) (by kernel_rfl) (fun _ _ _ h => h) (Or.inl ⟨by rfl, ?_⟩) (by assumption) ?_
      rotate_left
      · (intro wS hSw; (try dsimp only at hSw); go_simp; (try with_reducible rfl))
      try simp only [Act.put, List.setIfInBounds_toArray, List.set_cons_zero, List.set_cons_succ]
      refine wpAnyH_take (i := 11) (oi := { dst := some 61, op := Op.move (Operand.tmp 60), type := 4, pos := "law.go:36", after := #[{ on := 10, ground := Ground.data }, { on := 9, ground := Ground.chain }], guard := none }) (v := ?_) rfl (by kernel_rfl) (by kernel_rfl) (by kernel_rfl) (fun _ _ _ h => h) (Or.inl ⟨by rfl, ?_⟩) (by assumption) ?_
      rotate_left
      · (intro wS hSw; (try dsimp only at hSw); go_simp; (try with_reducible rfl))
      try simp only [Act.put, List.setIfInBounds_toArray, List.set_cons_zero, List.set_cons_succ]
      refine wpAnyH_take (i := 12) (oi := { dst := some 62, op := Op.move (Operand.tmp 8), type := 22, pos := "law.go:36", after := #[{ on := 11, ground := Ground.guard }], guard := some (11, true) }) (v := ?_) rfl (by kernel_rfl) (by kernel_rfl) (by kernel_rfl) (fun _ _ _ h => h) (Or.inl ⟨by rfl, ?_⟩) (by assumption) ?_
      rotate_left
      · (intro wS hSw; (try dsimp only at hSw); go_simp; (try with_reducible rfl))
      try simp only [Act.put, List.setIfInBounds_toArray, List.set_cons_zero, List.set_cons_succ]
      refine wpAnyH_take (i := 14) (oi := { dst := some 64, op := Op.move (Operand.tmp 0), type := 22, pos := "law.go:36", after := #[{ on := 11, ground := Ground.guard }], guard := some (11, true) }) (v := ?_) rfl (by kernel_rfl) (by kernel_rfl) (by kernel_rfl) (fun _ _ _ h => h) (Or.inl ⟨by rfl, ?_⟩) (by assumption) ?_
      rotate_left
      · (intro wS hSw; (try dsimp only at hSw); go_simp; (try with_reducible rfl))
      try simp only [Act.put, List.setIfInBounds_toArray, List.set_cons_zero, List.set_cons_succ]
      refine wpAnyH_take (i := 15) (oi := { dst := some 65, op := Op.move (Operand.tmp 7), type := 3, pos := "law.go:36", after := #[{ on := 11, ground := Ground.guard }], guard := some (11, true) }) (v := ?_) rfl (by kernel_rfl) (by kernel_rfl) (by kernel_rfl) (fun _ _ _ h => h) (Or.inl ⟨by rfl, ?_⟩) (by assumption) ?_
      rotate_left
      · (intro wS hSw; (try dsimp only at hSw); go_simp; (try with_reducible rfl))
      try simp only [Act.put, List.setIfInBounds_toArray, List.set_cons_zero, List.set_cons_succ]
      refine wpAnyH_take (i := 16) (oi := { dst := some 66, op := Op.slice 22 (Operand.tmp 64) none (some (Operand.tmp 65)) none, type := 22, pos := "law.go:36", after := #[{ on := 14, ground := Ground.data }, { on := 15, ground := Ground.data }, { on := 11, ground := Ground.guard }], guard := some (11, true) }) (v := ?_) rfl (by kernel_rfl) (by kernel_rfl) (by kernel_rfl) (fun _ _ _ h => h) (Or.inl ⟨by rfl, ?_⟩) (by assumption) ?_
      rotate_left
      · (intro wS hSw; (try dsimp only at hSw); go_simp; (try with_reducible rfl))
      try simp only [Act.put, List.setIfInBounds_toArray, List.set_cons_zero, List.set_cons_succ]
      refine wpAnyH_take (i := 18) (oi := { dst := some 68, op := Op.move (Operand.tmp 2), type := 22, pos := "law.go:36", after := #[{ on := 11, ground := Ground.guard }], guard := some (11, true) }) (v := ?_) rfl (by kernel_rfl) (by kernel_rfl) (by kernel_rfl) (fun _ _ _ h => h) (Or.inl ⟨by rfl, ?_⟩) (by assumption) ?_
      rotate_left
      · (intro wS hSw; (try dsimp only at hSw); go_simp; (try with_reducible rfl))
      try simp only [Act.put, List.setIfInBounds_toArray, List.set_cons_zero, List.set_cons_succ]
      refine wpAnyH_take (i := 19) (oi := { dst := some 69, op := Op.move (Operand.tmp 7), type := 3, pos := "law.go:36", after := #[{ on := 11, ground := Ground.guard }], guard := some (11, true) }) (v := ?_) rfl (by kernel_rfl) (by kernel_rfl) (by kernel_rfl) (fun _ _ _ h => h) (Or.inl ⟨by rfl, ?_⟩) (by assumption) ?_
      rotate_left
      · (intro wS hSw; (try dsimp only at hSw); go_simp; (try with_reducible rfl))
      try simp only [Act.put, List.setIfInBounds_toArray, List.set_cons_zero, List.set_cons_succ]
      refine wpAnyH_take (i := 20) (oi := { dst := some 70, op := Op.slice 22 (Operand.tmp 68) none (some (Operand.tmp 69)) none, type := 22, pos := "law.go:36", after := #[{ on := 18, ground := Ground.data }, { on := 19, ground := Ground.data }, { on := 11, ground := Ground.guard }], guard := some (11, true) }) (v := ?_) rfl (by kernel_rfl) (by kernel_rfl) (by kernel_rfl) (fun _ _ _ h => h) (Or.inl ⟨by rfl, ?_⟩) (by assumption) ?_
      rotate_left
      · (intro wS hSw; (try dsimp only at hSw); go_simp; (try with_reducible rfl))
      try simp only [Act.put, List.setIfInBounds_toArray, List.set_cons_zero, List.set_cons_succ]
      refine wpAnyH_take (i := 23) (oi := { dst := some 73, op := Op.move (Operand.tmp 9), type := 22, pos := "law.go:36", after := #[{ on := 11, ground := Ground.guard }], guard := some (11, true) }) (v := ?_) rfl (by kernel_rfl) (by kernel_rfl) (by kernel_rfl) (fun _ _ _ h => h) (Or.inl ⟨by rfl, ?_⟩) (by assumption) ?_
      rotate_left
      · (intro wS hSw; (try dsimp only at hSw); go_simp; (try with_reducible rfl))
      try simp only [Act.put, List.setIfInBounds_toArray, List.set_cons_zero, List.set_cons_succ]
      refine wpAnyH_ready (rs := [13]) (by kernel_rfl) (by simp) ?_
      refine AllReadyH.cons (o := { dst := some 63, op := Op.call { callee := Callee.value (Operand.func 8), args := #[Operand.tmp 62], argTypes := #[22] }, type := 23, pos := "law.go:36", after := #[{ on := 12, ground := Ground.data }, { on := 11, ground := Ground.chain }, { on := 11, ground := Ground.guard }], guard := some (11, true) }) rfl (fun K hK => ?_) AllReadyH.nil
      go_simp
      (first
          | (go_at_call 6; refine (crcAwake_any _).mono ?_; rintro e' w3 ⟨rfl, hb3⟩)
          | (go_at_call 10; refine (more_n Sa (bs.drop a) _ _ _ _ (by simp) bSa (by rw [List.map_drop]; exact (sb.held hHeld.2.1 hHeld.2.2).drop_ a c (by simpa using hc)) (h80.drop_ a) (by simp; omega)).mono ?_; rw [Jb.out]; rintro e' w' ⟨rfl, rfl⟩)
          | (go_at_call 8; ((with_reducible refine (crcOf_n (bs.take a) (a) A c _ (by simp; omega) (by rw [List.map_take]; exact (sb.held hHeld.2.1 hHeld.2.2).take_ a) (h80.take_ a) (by first | omega | (simp; omega) | (rw [Tx.out]; omega))).mono ?_); rw [Ja.out]; rintro e' w' ⟨rfl, rfl⟩))
          | (go_at_call 8; ((with_reducible refine (crcOf_n bs (bs.length) A c _ rfl (sb.held hHeld.2.1 hHeld.2.2) h80 (by first | omega | (simp; omega) | (rw [Tx.out]; omega))).mono ?_); rw [J1.out]; rintro e' w' ⟨rfl, rfl⟩))
          | (go_at_call 8; ((with_reducible refine (crcOf_n (xorL (bs.take (bs.length)) (cs.take (bs.length))) (bs.length) X cx _ Tx.out.symm (sx.held hHeld.2.1 hHeld.2.2) hx8 (by first | omega | (simp; omega) | (rw [Tx.out]; omega))).mono ?_); rw [J5.out]; rintro e' w' ⟨rfl, rfl⟩))
          | (go_at_call 8; ((with_reducible refine (crcOf_n (bs.take (bs.length)) (bs.length) A c _ Tb.out.symm (by rw [List.map_take]; exact (sb.held hHeld.2.1 hHeld.2.2).take_ _) (h80.take_ _) (by first | omega | (simp; omega) | (rw [Tx.out]; omega))).mono ?_); rw [J2.out]; rintro e' w' ⟨rfl, rfl⟩))
          | (go_at_call 8; ((with_reducible refine (crcOf_n (cs.take (bs.length)) (bs.length) B d _ Tc.out.symm (by rw [List.map_take]; exact (sc.held hHeld.2.1 hHeld.2.2).take_ _) (h82.take_ _) (by first | omega | (simp; omega) | (rw [Tx.out]; omega))).mono ?_); rw [J3.out]; rintro e' w' ⟨rfl, rfl⟩))
          | (go_at_call 8; ((with_reducible refine (crcOf_n (List.replicate (bs.length) 0) (bs.length) Z cz _ (by simp) (sz.held hHeld.2.1 hHeld.2.2) (zeros8 _) (by first | omega | (simp; omega) | (rw [Tx.out]; omega))).mono ?_); rw [J4.out]; rintro e' w' ⟨rfl, rfl⟩)))
      go_simp
      refine hK.out _ _ ?_ (fun hNew => ?_)
      · (first | exact ⟨below_dn hB0 1, by simp, by simp⟩ | exact kept_step (by assumption) hb3 | assumption)
      clear hK K hHeld
      have hHeld := hNew
      clear hNew
      try simp only [Act.put, List.setIfInBounds_toArray, List.set_cons_zero, List.set_cons_succ]
      refine wpAnyH_ready (rs := [17]) (by kernel_rfl) (by simp) ?_
      refine AllReadyH.cons (o := { dst := some 67, op := Op.call { callee := Callee.value (Operand.func 8), args := #[Operand.tmp 66], argTypes := #[22] }, type := 23, pos := "law.go:36", after := #[{ on := 16, ground := Ground.data }, { on := 13, ground := Ground.chain }, { on := 11, ground := Ground.guard }], guard := some (11, true) }) rfl (fun K hK => ?_) AllReadyH.nil
      go_simp
      (first
          | (go_at_call 6; refine (crcAwake_any _).mono ?_; rintro e' w3 ⟨rfl, hb3⟩)
          | (go_at_call 10; refine (more_n Sa (bs.drop a) _ _ _ _ (by simp) bSa (by rw [List.map_drop]; exact (sb.held hHeld.2.1 hHeld.2.2).drop_ a c (by simpa using hc)) (h80.drop_ a) (by simp; omega)).mono ?_; rw [Jb.out]; rintro e' w' ⟨rfl, rfl⟩)
          | (go_at_call 8; ((with_reducible refine (crcOf_n (bs.take a) (a) A c _ (by simp; omega) (by rw [List.map_take]; exact (sb.held hHeld.2.1 hHeld.2.2).take_ a) (h80.take_ a) (by first | omega | (simp; omega) | (rw [Tx.out]; omega))).mono ?_); rw [Ja.out]; rintro e' w' ⟨rfl, rfl⟩))
          | (go_at_call 8; ((with_reducible refine (crcOf_n bs (bs.length) A c _ rfl (sb.held hHeld.2.1 hHeld.2.2) h80 (by first | omega | (simp; omega) | (rw [Tx.out]; omega))).mono ?_); rw [J1.out]; rintro e' w' ⟨rfl, rfl⟩))
          | (go_at_call 8; ((with_reducible refine (crcOf_n (xorL (bs.take (bs.length)) (cs.take (bs.length))) (bs.length) X cx _ Tx.out.symm (sx.held hHeld.2.1 hHeld.2.2) hx8 (by first | omega | (simp; omega) | (rw [Tx.out]; omega))).mono ?_); rw [J5.out]; rintro e' w' ⟨rfl, rfl⟩))
          | (go_at_call 8; ((with_reducible refine (crcOf_n (bs.take (bs.length)) (bs.length) A c _ Tb.out.symm (by rw [List.map_take]; exact (sb.held hHeld.2.1 hHeld.2.2).take_ _) (h80.take_ _) (by first | omega | (simp; omega) | (rw [Tx.out]; omega))).mono ?_); rw [J2.out]; rintro e' w' ⟨rfl, rfl⟩))
          | (go_at_call 8; ((with_reducible refine (crcOf_n (cs.take (bs.length)) (bs.length) B d _ Tc.out.symm (by rw [List.map_take]; exact (sc.held hHeld.2.1 hHeld.2.2).take_ _) (h82.take_ _) (by first | omega | (simp; omega) | (rw [Tx.out]; omega))).mono ?_); rw [J3.out]; rintro e' w' ⟨rfl, rfl⟩))
          | (go_at_call 8; ((with_reducible refine (crcOf_n (List.replicate (bs.length) 0) (bs.length) Z cz _ (by simp) (sz.held hHeld.2.1 hHeld.2.2) (zeros8 _) (by first | omega | (simp; omega) | (rw [Tx.out]; omega))).mono ?_); rw [J4.out]; rintro e' w' ⟨rfl, rfl⟩)))
      go_simp
      refine hK.out _ _ ?_ (fun hNew => ?_)
      · (first | exact ⟨below_dn hB0 1, by simp, by simp⟩ | exact kept_step (by assumption) hb3 | assumption)
      clear hK K hHeld
      have hHeld := hNew
      clear hNew
      try simp only [Act.put, List.setIfInBounds_toArray, List.set_cons_zero, List.set_cons_succ]
      refine wpAnyH_ready (rs := [21]) (by kernel_rfl) (by simp) ?_
      refine AllReadyH.cons (o := { dst := some 71, op := Op.call { callee := Callee.value (Operand.func 8), args := #[Operand.tmp 70], argTypes := #[22] }, type := 23, pos := "law.go:36", after := #[{ on := 20, ground := Ground.data }, { on := 17, ground := Ground.chain }, { on := 11, ground := Ground.guard }], guard := some (11, true) }) rfl (fun K hK => ?_) AllReadyH.nil
      go_simp
      (first
          | (go_at_call 6; refine (crcAwake_any _).mono ?_; rintro e' w3 ⟨rfl, hb3⟩)
          | (go_at_call 10; refine (more_n Sa (bs.drop a) _ _ _ _ (by simp) bSa (by rw [List.map_drop]; exact (sb.held hHeld.2.1 hHeld.2.2).drop_ a c (by simpa using hc)) (h80.drop_ a) (by simp; omega)).mono ?_; rw [Jb.out]; rintro e' w' ⟨rfl, rfl⟩)
          | (go_at_call 8; ((with_reducible refine (crcOf_n (bs.take a) (a) A c _ (by simp; omega) (by rw [List.map_take]; exact (sb.held hHeld.2.1 hHeld.2.2).take_ a) (h80.take_ a) (by first | omega | (simp; omega) | (rw [Tx.out]; omega))).mono ?_); rw [Ja.out]; rintro e' w' ⟨rfl, rfl⟩))
          | (go_at_call 8; ((with_reducible refine (crcOf_n bs (bs.length) A c _ rfl (sb.held hHeld.2.1 hHeld.2.2) h80 (by first | omega | (simp; omega) | (rw [Tx.out]; omega))).mono ?_); rw [J1.out]; rintro e' w' ⟨rfl, rfl⟩))
          | (go_at_call 8; ((with_reducible refine (crcOf_n (xorL (bs.take (bs.length)) (cs.take (bs.length))) (bs.length) X cx _ Tx.out.symm (sx.held hHeld.2.1 hHeld.2.2) hx8 (by first | omega | (simp; omega) | (rw [Tx.out]; omega))).mono ?_); rw [J5.out]; rintro e' w' ⟨rfl, rfl⟩))
          | (go_at_call 8; ((with_reducible refine (crcOf_n (bs.take (bs.length)) (bs.length) A c _ Tb.out.symm (by rw [List.map_take]; exact (sb.held hHeld.2.1 hHeld.2.2).take_ _) (h80.take_ _) (by first | omega | (simp; omega) | (rw [Tx.out]; omega))).mono ?_); rw [J2.out]; rintro e' w' ⟨rfl, rfl⟩))
          | (go_at_call 8; ((with_reducible refine (crcOf_n (cs.take (bs.length)) (bs.length) B d _ Tc.out.symm (by rw [List.map_take]; exact (sc.held hHeld.2.1 hHeld.2.2).take_ _) (h82.take_ _) (by first | omega | (simp; omega) | (rw [Tx.out]; omega))).mono ?_); rw [J3.out]; rintro e' w' ⟨rfl, rfl⟩))
          | (go_at_call 8; ((with_reducible refine (crcOf_n (List.replicate (bs.length) 0) (bs.length) Z cz _ (by simp) (sz.held hHeld.2.1 hHeld.2.2) (zeros8 _) (by first | omega | (simp; omega) | (rw [Tx.out]; omega))).mono ?_); rw [J4.out]; rintro e' w' ⟨rfl, rfl⟩)))
      go_simp
      refine hK.out _ _ ?_ (fun hNew => ?_)
      · (first | exact ⟨below_dn hB0 1, by simp, by simp⟩ | exact kept_step (by assumption) hb3 | assumption)
      clear hK K hHeld
      have hHeld := hNew
      clear hNew
      try simp only [Act.put, List.setIfInBounds_toArray, List.set_cons_zero, List.set_cons_succ]
      refine wpAnyH_take (i := 22) (oi := { dst := some 72, op := Op.binOp BinOp.xor 23 (Operand.tmp 67) (Operand.tmp 71) 23, type := 23, pos := "law.go:36", after := #[{ on := 17, ground := Ground.data }, { on := 21, ground := Ground.data }, { on := 11, ground := Ground.guard }], guard := some (11, true) }) (v := ?_) rfl (by kernel_rfl) (by kernel_rfl) (by kernel_rfl) (fun _ _ _ h => h) (Or.inl ⟨by rfl, ?_⟩) (by assumption) ?_
      rotate_left
      · (intro wS hSw; (try dsimp only at hSw); go_simp; (try with_reducible rfl))
      try simp only [Act.put, List.setIfInBounds_toArray, List.set_cons_zero, List.set_cons_succ]
      refine wpAnyH_ready (rs := [24]) (by kernel_rfl) (by simp) ?_
      refine AllReadyH.cons (o := { dst := some 74, op := Op.call { callee := Callee.value (Operand.func 8), args := #[Operand.tmp 73], argTypes := #[22] }, type := 23, pos := "law.go:36", after := #[{ on := 23, ground := Ground.data }, { on := 21, ground := Ground.chain }, { on := 11, ground := Ground.guard }], guard := some (11, true) }) rfl (fun K hK => ?_) AllReadyH.nil
      go_simp
      (first
          | (go_at_call 6; refine (crcAwake_any _).mono ?_; rintro e' w3 ⟨rfl, hb3⟩)
          | (go_at_call 10; refine (more_n Sa (bs.drop a) _ _ _ _ (by simp) bSa (by rw [List.map_drop]; exact (sb.held hHeld.2.1 hHeld.2.2).drop_ a c (by simpa using hc)) (h80.drop_ a) (by simp; omega)).mono ?_; rw [Jb.out]; rintro e' w' ⟨rfl, rfl⟩)
          | (go_at_call 8; ((with_reducible refine (crcOf_n (bs.take a) (a) A c _ (by simp; omega) (by rw [List.map_take]; exact (sb.held hHeld.2.1 hHeld.2.2).take_ a) (h80.take_ a) (by first | omega | (simp; omega) | (rw [Tx.out]; omega))).mono ?_); rw [Ja.out]; rintro e' w' ⟨rfl, rfl⟩))
          | (go_at_call 8; ((with_reducible refine (crcOf_n bs (bs.length) A c _ rfl (sb.held hHeld.2.1 hHeld.2.2) h80 (by first | omega | (simp; omega) | (rw [Tx.out]; omega))).mono ?_); rw [J1.out]; rintro e' w' ⟨rfl, rfl⟩))
          | (go_at_call 8; ((with_reducible refine (crcOf_n (xorL (bs.take (bs.length)) (cs.take (bs.length))) (bs.length) X cx _ Tx.out.symm (sx.held hHeld.2.1 hHeld.2.2) hx8 (by first | omega | (simp; omega) | (rw [Tx.out]; omega))).mono ?_); rw [J5.out]; rintro e' w' ⟨rfl, rfl⟩))
          | (go_at_call 8; ((with_reducible refine (crcOf_n (bs.take (bs.length)) (bs.length) A c _ Tb.out.symm (by rw [List.map_take]; exact (sb.held hHeld.2.1 hHeld.2.2).take_ _) (h80.take_ _) (by first | omega | (simp; omega) | (rw [Tx.out]; omega))).mono ?_); rw [J2.out]; rintro e' w' ⟨rfl, rfl⟩))
          | (go_at_call 8; ((with_reducible refine (crcOf_n (cs.take (bs.length)) (bs.length) B d _ Tc.out.symm (by rw [List.map_take]; exact (sc.held hHeld.2.1 hHeld.2.2).take_ _) (h82.take_ _) (by first | omega | (simp; omega) | (rw [Tx.out]; omega))).mono ?_); rw [J3.out]; rintro e' w' ⟨rfl, rfl⟩))
          | (go_at_call 8; ((with_reducible refine (crcOf_n (List.replicate (bs.length) 0) (bs.length) Z cz _ (by simp) (sz.held hHeld.2.1 hHeld.2.2) (zeros8 _) (by first | omega | (simp; omega) | (rw [Tx.out]; omega))).mono ?_); rw [J4.out]; rintro e' w' ⟨rfl, rfl⟩)))
      go_simp
      refine hK.out _ _ ?_ (fun hNew => ?_)
      · (first | exact ⟨below_dn hB0 1, by simp, by simp⟩ | exact kept_step (by assumption) hb3 | assumption)
      clear hK K hHeld
      have hHeld := hNew
      clear hNew
      try simp only [Act.put, List.setIfInBounds_toArray, List.set_cons_zero, List.set_cons_succ]
      refine wpAnyH_take (i := 25) (oi := { dst := some 75, op := Op.binOp BinOp.xor 23 (Operand.tmp 72) (Operand.tmp 74) 23, type := 23, pos := "law.go:36", after := #[{ on := 22, ground := Ground.data }, { on := 24, ground := Ground.data }, { on := 11, ground := Ground.guard }], guard := some (11, true) }) (v := ?_) rfl (by kernel_rfl) (by kernel_rfl) (by kernel_rfl) (fun _ _ _ h => h) (Or.inl ⟨by rfl, ?_⟩) (by assumption) ?_
      rotate_left
      · (intro wS hSw; (try dsimp only at hSw); go_simp; (try with_reducible rfl))
      try simp only [Act.put, List.setIfInBounds_toArray, List.set_cons_zero, List.set_cons_succ]
      refine wpAnyH_take (i := 26) (oi := { dst := some 76, op := Op.binOp BinOp.eql 23 (Operand.tmp 63) (Operand.tmp 75) 23, type := 4, pos := "law.go:36", after := #[{ on := 13, ground := Ground.data }, { on := 25, ground := Ground.data }, { on := 11, ground := Ground.guard }], guard := some (11, true) }) (v := ?_) rfl (by kernel_rfl) (by kernel_rfl) (by kernel_rfl) (fun _ _ _ h => h) (Or.inl ⟨by rfl, ?_⟩) (by assumption) ?_
      rotate_left
      · (intro wS hSw; (try dsimp only at hSw); go_simp; (try with_reducible rfl))
      try simp only [Act.put, List.setIfInBounds_toArray, List.set_cons_zero, List.set_cons_succ]
      refine wpAnyH_take (i := 27) (oi := { dst := some 77, op := Op.pick (Operand.tmp 61) (Operand.tmp 76) (Operand.const (Value.bool false)), type := 4, pos := "law.go:36", after := #[{ on := 11, ground := Ground.data }, { on := 26, ground := Ground.data }], guard := none }) (v := ?_) rfl (by kernel_rfl) (by kernel_rfl) (by kernel_rfl) (fun _ _ _ h => h) (Or.inl ⟨by rfl, ?_⟩) (by assumption) ?_
      rotate_left
      · (intro wS hSw; (try dsimp only at hSw); go_simp; (try with_reducible rfl))
      try simp only [Act.put, List.setIfInBounds_toArray, List.set_cons_zero, List.set_cons_succ]
      refine wpAnyH_take (i := 28) (oi := { dst := some 78, op := Op.move (Operand.tmp 77), type := 4, pos := "law.go:36", after := #[{ on := 27, ground := Ground.data }, { on := 24, ground := Ground.chain }], guard := none }) (v := ?_) rfl (by kernel_rfl) (by kernel_rfl) (by kernel_rfl) (fun _ _ _ h => h) (Or.inl ⟨by rfl, ?_⟩) (by assumption) ?_
      rotate_left
      · (intro wS hSw; (try dsimp only at hSw); go_simp; (try with_reducible rfl))
      try simp only [Act.put, List.setIfInBounds_toArray, List.set_cons_zero, List.set_cons_succ]
      refine wpAnyH_ready (rs := [29]) (by kernel_rfl) (by simp) ?_
      refine AllReadyH.cons (o := { dst := some 79, op := Op.call { callee := Callee.value (Operand.func 6), args := #[], argTypes := #[] }, type := 4, pos := "law.go:36", after := #[{ on := 28, ground := Ground.chain }, { on := 28, ground := Ground.guard }], guard := some (28, true) }) rfl (fun K hK => ?_) AllReadyH.nil
      go_simp
      (first
          | (go_at_call 6; refine (crcAwake_any _).mono ?_; rintro e' w3 ⟨rfl, hb3⟩)
          | (go_at_call 10; refine (more_n Sa (bs.drop a) _ _ _ _ (by simp) bSa (by rw [List.map_drop]; exact (sb.held hHeld.2.1 hHeld.2.2).drop_ a c (by simpa using hc)) (h80.drop_ a) (by simp; omega)).mono ?_; rw [Jb.out]; rintro e' w' ⟨rfl, rfl⟩)
          | (go_at_call 8; ((with_reducible refine (crcOf_n (bs.take a) (a) A c _ (by simp; omega) (by rw [List.map_take]; exact (sb.held hHeld.2.1 hHeld.2.2).take_ a) (h80.take_ a) (by first | omega | (simp; omega) | (rw [Tx.out]; omega))).mono ?_); rw [Ja.out]; rintro e' w' ⟨rfl, rfl⟩))
          | (go_at_call 8; ((with_reducible refine (crcOf_n bs (bs.length) A c _ rfl (sb.held hHeld.2.1 hHeld.2.2) h80 (by first | omega | (simp; omega) | (rw [Tx.out]; omega))).mono ?_); rw [J1.out]; rintro e' w' ⟨rfl, rfl⟩))
          | (go_at_call 8; ((with_reducible refine (crcOf_n (xorL (bs.take (bs.length)) (cs.take (bs.length))) (bs.length) X cx _ Tx.out.symm (sx.held hHeld.2.1 hHeld.2.2) hx8 (by first | omega | (simp; omega) | (rw [Tx.out]; omega))).mono ?_); rw [J5.out]; rintro e' w' ⟨rfl, rfl⟩))
          | (go_at_call 8; ((with_reducible refine (crcOf_n (bs.take (bs.length)) (bs.length) A c _ Tb.out.symm (by rw [List.map_take]; exact (sb.held hHeld.2.1 hHeld.2.2).take_ _) (h80.take_ _) (by first | omega | (simp; omega) | (rw [Tx.out]; omega))).mono ?_); rw [J2.out]; rintro e' w' ⟨rfl, rfl⟩))
          | (go_at_call 8; ((with_reducible refine (crcOf_n (cs.take (bs.length)) (bs.length) B d _ Tc.out.symm (by rw [List.map_take]; exact (sc.held hHeld.2.1 hHeld.2.2).take_ _) (h82.take_ _) (by first | omega | (simp; omega) | (rw [Tx.out]; omega))).mono ?_); rw [J3.out]; rintro e' w' ⟨rfl, rfl⟩))
          | (go_at_call 8; ((with_reducible refine (crcOf_n (List.replicate (bs.length) 0) (bs.length) Z cz _ (by simp) (sz.held hHeld.2.1 hHeld.2.2) (zeros8 _) (by first | omega | (simp; omega) | (rw [Tx.out]; omega))).mono ?_); rw [J4.out]; rintro e' w' ⟨rfl, rfl⟩)))
      go_simp
      refine hK.out _ _ ?_ (fun hNew => ?_)
      · (first | exact ⟨below_dn hB0 1, by simp, by simp⟩ | exact kept_step (by assumption) hb3 | assumption)
      clear hK K hHeld
      have hHeld := hNew
      clear hNew
      try simp only [Act.put, List.setIfInBounds_toArray, List.set_cons_zero, List.set_cons_succ]
      refine wpAnyH_take (i := 30) (oi := { dst := some 80, op := Op.pick (Operand.tmp 78) (Operand.tmp 79) (Operand.const (Value.bool false)), type := 4, pos := "law.go:36", after := #[{ on := 28, ground := Ground.data }, { on := 29, ground := Ground.data }], guard := none }) (v := ?_) rfl (by kernel_rfl) (by kernel_rfl) (by kernel_rfl) (fun _ _ _ h => h) (Or.inl ⟨by rfl, ?_⟩) (by assumption) ?_
      rotate_left
      · (intro wS hSw; (try dsimp only at hSw); go_simp; (try with_reducible rfl))
      try simp only [Act.put, List.setIfInBounds_toArray, List.set_cons_zero, List.set_cons_succ]
      refine wpAnyH_take (i := 31) (oi := { dst := some 6, op := Op.assign (Operand.tmp 80), type := 4, pos := "law.go:36", after := #[{ on := 30, ground := Ground.data }, { on := 29, ground := Ground.chain }, { on := 0, ground := Ground.phase }, { on := 1, ground := Ground.phase }, { on := 2, ground := Ground.phase }, { on := 3, ground := Ground.phase }, { on := 4, ground := Ground.phase }, { on := 5, ground := Ground.phase }, { on := 6, ground := Ground.phase }, { on := 7, ground := Ground.phase }, { on := 8, ground := Ground.phase }, { on := 9, ground := Ground.phase }, { on := 10, ground := Ground.phase }, { on := 11, ground := Ground.phase }, { on := 12, ground := Ground.phase }, { on := 13, ground := Ground.phase }, { on := 14, ground := Ground.phase }, { on := 15, ground := Ground.phase }, { on := 16, ground := Ground.phase }, { on := 17, ground := Ground.phase }, { on := 18, ground := Ground.phase }, { on := 19, ground := Ground.phase }, { on := 20, ground := Ground.phase }, { on := 21, ground := Ground.phase }, { on := 22, ground := Ground.phase }, { on := 23, ground := Ground.phase }, { on := 24, ground := Ground.phase }, { on := 25, ground := Ground.phase }, { on := 26, ground := Ground.phase }, { on := 27, ground := Ground.phase }, { on := 28, ground := Ground.phase }, { on := 29, ground := Ground.phase }, { on := 30, ground := Ground.phase }], guard := none }) (v := ?_) rfl (by kernel_rfl) (by kernel_rfl) (by kernel_rfl) (fun _ _ _ h => h) (Or.inl ⟨by rfl, ?_⟩) (by assumption) ?_
      rotate_left
      · (intro wS hSw; (try dsimp only at hSw); go_simp; (try with_reducible rfl))
      try simp only [Act.put, List.setIfInBounds_toArray, List.set_cons_zero, List.set_cons_succ]
      refine wpAnyH_done (by kernel_rfl) ?_ _
      refine NoPanic.normal ?_
      go_wp2
      all_goals
        go_ret
        exact ⟨rfl, hHeld.1⟩

set_option maxRecDepth 100000 in
set_option maxHeartbeats 8000000 in
theorem crcparts_b (A : Option Addr) (c : Nat) (bs : List Nat) (z : Int) (B : Option Addr) (d : Nat) (cs : List Nat) (w : World) (h1 : Sl w w.heap.size A (bs.map byteV)) (hc : bs.length ≤ c) (hA' : RowKit.Hid (A = none → bs.length = 0 ∧ c = 0)) (h80 : Bytes8 bs) (h2 : Sl w w.heap.size B (cs.map byteV)) (hd : cs.length ≤ d) (hB' : RowKit.Hid (B = none → cs.length = 0 ∧ d = 0)) (h82 : Bytes8 cs)
    (hl : bs.length ≤ 300) (hl2 : cs.length ≤ 300) (hle : cs.length < bs.length) :
    Calls Try.prog 4 #[.slice A bs.length c, .int .i64 z, .slice B cs.length d] w fun e w' => e = .returned (.bool true) ∧ Below w.heap.size w w' := by
  obtain ⟨i0, hi, hz0, hz1, hz2⟩ := info_parts infoByte
  obtain ⟨a, ha, ha2⟩ : ∃ a : Nat, lowI z ((bs.length : Int) + 1) = (a : Int) ∧ a ≤ bs.length := by
    have := lowI_bd z ((bs.length : Int) + 1) (by omega)
    exact ⟨(lowI z ((bs.length : Int) + 1)).toNat, by omega, by omega⟩
  go_enter Try.func4, Try.ntmps4
  go_wp2_with (go_at_call 13; refine (low_any _ _ _ (by omega) (by omega)).mono ?_; rintro e w' ⟨rfl, rfl⟩)
  go_loopw [8, 9, 10] (fun xv zv i wr => ∃ k : Nat, k ≤ cs.length ∧ i = .int .i64 k ∧ wr.ownsRow w.heap.size 5 1 xv k ((xorL (bs.take k) (cs.take k)).map byteV) ∧ wr.ownsRow w.heap.size 5 1 zv k ((List.replicate k 0).map byteV) ∧ Hid (xv.ownBlock = none ∨ xv.ownBlock ≠ zv.ownBlock) ∧ Below w.heap.size w wr) (fun _ _ i _ => cs.length - (intOf i).toNat)
  case atStart => exact ⟨0, Nat.zero_le _, rfl, World.ownsRow_nil _ _ _ _, World.ownsRow_nil _ _ _ _, Or.inl rfl, Below.refl _ _⟩
  case round =>
    obtain ⟨k, hk, rfl, ox, oz, hne, hB0⟩ := hrel
    by_cases hlt : k < cs.length
    · obtain ⟨b1, o1, rfl, l1, q1⟩ := (h1.below hB0).at_ (by simpa using (by omega : 0 < bs.length))
      obtain ⟨b2, o2, rfl, l2, q2⟩ := (h2.below hB0).at_ (by simpa using (by omega : 0 < cs.length))
      have hx := h80.at_ k
      have hy := h82.at_ k
      obtain ⟨x, hxe⟩ : ∃ x, bs.getD k 0 = x := ⟨_, rfl⟩
      obtain ⟨y, hye⟩ : ∃ x, cs.getD k 0 = x := ⟨_, rfl⟩
      have kb : k < bs.length := by omega
      have kc : k < cs.length := by omega
      have cx : wr.cell? ⟨b1, o1 + k, none⟩ = some (.int .u8 (x : Int)) := q1 k _ (by rw [← hxe]; simp [kb, byteV])
      have cy : wr.cell? ⟨b2, o2 + k, none⟩ = some (.int .u8 (y : Int)) := q2 k _ (by rw [← hye]; simp [kc, byteV])
      rw [hxe] at hx
      rw [hye] at hy
      have hsn : (xorL (bs.take (k + 1)) (cs.take (k + 1))).map byteV = (xorL (bs.take k) (cs.take k)).map byteV ++ [byteV (x ^^^ y)] := by
        rw [List.take_succ_eq_append_getElem kb, List.take_succ_eq_append_getElem kc, xorL_snoc _ _ _ _ (by simp; omega), List.map_append]
        have e1 : bs[k] = x := by rw [← hxe]; simp [kb]
        have e2 : cs[k] = y := by rw [← hye]; simp [kc]
        rw [e1, e2]
        rfl
      have Hsn := Lib.hid hsn
      have hxy := xor8 hx hy
      clear hxe hye q1 q2 hsn
      have i1 : (0 : Int) ≤ (k : Int) := by omega
      have i2 : (k : Int) < (bs.length : Int) := by omega
      have i3 : (k : Int) < (cs.length : Int) := by omega
      have hsz := hB0.size
      go_wp2_with fail
      have ox1 := ox.drew
      have oz1 := oz.drew
      have hB1 : Below w.heap.size w wr.drew := below_dn hB0 1
      have hne' := hne
      have hsz2 := hB1.size
      have l1' : b1 < wr.heap.size := by omega
      have l2' : b2 < wr.heap.size := by omega
      refine wp_region_noPanic ?_
      refine wp_region_held_drew (S := (fun w' => RowKit.Hid (Below w.heap.size w w') ∧ (∀ (o : Nat), w'.cell? ⟨b1, o, none⟩ = wr.cell? ⟨b1, o, none⟩) ∧ ∀ (o : Nat), w'.cell? ⟨b2, o, none⟩ = wr.cell? ⟨b2, o, none⟩)) (by kernel_rfl) ?_ (fun hHeld => ?_)
      · (first | exact keep9 l1 l2 hB0 hB1 | exact keep9 l1 l2 hB0 (hB1.alloc hsz2 _) | exact keep9 l1 l2 hB0 hB3 | assumption)
      refine wpAnyH_take (i := 0) (oi := { dst := some 35, op := Op.move (Operand.tmp 8), type := 22, pos := "law.go:33", after := #[], guard := none }) (v := ?_) rfl (by kernel_rfl) (by kernel_rfl) (by kernel_rfl) (fun _ _ _ h => h) (Or.inl ⟨by rfl, ?_⟩) (by assumption) ?_
      rotate_left
      · (intro wS hSw; (try dsimp only at hSw); go_simp; (try with_reducible rfl))
      try simp only [Act.put, List.setIfInBounds_toArray, List.set_cons_zero, List.set_cons_succ]
      refine wpAnyH_take (i := 1) (oi := { dst := some 36, op := Op.move (Operand.tmp 0), type := 22, pos := "law.go:33", after := #[], guard := none }) (v := ?_) rfl (by kernel_rfl) (by kernel_rfl) (by kernel_rfl) (fun _ _ _ h => h) (Or.inl ⟨by rfl, ?_⟩) (by assumption) ?_
      rotate_left
      · (intro wS hSw; (try dsimp only at hSw); go_simp; (try with_reducible rfl))
      try simp only [Act.put, List.setIfInBounds_toArray, List.set_cons_zero, List.set_cons_succ]
      refine wpAnyH_take (i := 2) (oi := { dst := some 37, op := Op.move (Operand.tmp 10), type := 3, pos := "law.go:33", after := #[], guard := none }) (v := ?_) rfl (by kernel_rfl) (by kernel_rfl) (by kernel_rfl) (fun _ _ _ h => h) (Or.inl ⟨by rfl, ?_⟩) (by assumption) ?_
      rotate_left
      · (intro wS hSw; (try dsimp only at hSw); go_simp; (try with_reducible rfl))
      try simp only [Act.put, List.setIfInBounds_toArray, List.set_cons_zero, List.set_cons_succ]
      refine wpAnyH_take (i := 3) (oi := { dst := some 38, op := Op.indexAddr 22 (Operand.tmp 36) (Operand.tmp 37), type := 0, pos := "law.go:33", after := #[{ on := 1, ground := Ground.data }, { on := 2, ground := Ground.data }], guard := none }) (v := ?_) rfl (by kernel_rfl) (by kernel_rfl) (by kernel_rfl) (fun _ _ _ h => h) (Or.inl ⟨by rfl, ?_⟩) (by assumption) ?_
      rotate_left
      · (intro wS hSw; (try dsimp only at hSw); go_simp; (try with_reducible rfl))
      try simp only [Act.put, List.setIfInBounds_toArray, List.set_cons_zero, List.set_cons_succ]
      refine wpAnyH_take (i := 4) (oi := { dst := some 39, op := Op.load 5 (Operand.tmp 38), type := 5, pos := "law.go:33", after := #[{ on := 3, ground := Ground.data }], guard := none }) (v := ?_) rfl (by kernel_rfl) (by kernel_rfl) (by kernel_rfl) (fun _ _ _ h => h) (Or.inl ⟨by rfl, ?_⟩) (by assumption) ?_
      rotate_left
      · (intro wS hSw; (try dsimp only at hSw); go_simp; (try with_reducible rfl))
      try simp only [Act.put, List.setIfInBounds_toArray, List.set_cons_zero, List.set_cons_succ]
      refine wpAnyH_take (i := 5) (oi := { dst := some 40, op := Op.move (Operand.tmp 2), type := 22, pos := "law.go:33", after := #[], guard := none }) (v := ?_) rfl (by kernel_rfl) (by kernel_rfl) (by kernel_rfl) (fun _ _ _ h => h) (Or.inl ⟨by rfl, ?_⟩) (by assumption) ?_
      rotate_left
      · (intro wS hSw; (try dsimp only at hSw); go_simp; (try with_reducible rfl))
      try simp only [Act.put, List.setIfInBounds_toArray, List.set_cons_zero, List.set_cons_succ]
      refine wpAnyH_take (i := 6) (oi := { dst := some 41, op := Op.move (Operand.tmp 10), type := 3, pos := "law.go:33", after := #[], guard := none }) (v := ?_) rfl (by kernel_rfl) (by kernel_rfl) (by kernel_rfl) (fun _ _ _ h => h) (Or.inl ⟨by rfl, ?_⟩) (by assumption) ?_
      rotate_left
      · (intro wS hSw; (try dsimp only at hSw); go_simp; (try with_reducible rfl))
      try simp only [Act.put, List.setIfInBounds_toArray, List.set_cons_zero, List.set_cons_succ]
      refine wpAnyH_take (i := 7) (oi := { dst := some 42, op := Op.indexAddr 22 (Operand.tmp 40) (Operand.tmp 41), type := 0, pos := "law.go:33", after := #[{ on := 5, ground := Ground.data }, { on := 6, ground := Ground.data }], guard := none }) (v := ?_) rfl (by kernel_rfl) (by kernel_rfl) (by kernel_rfl) (fun _ _ _ h => h) (Or.inl ⟨by rfl, ?_⟩) (by assumption) ?_
      rotate_left
      · (intro wS hSw; (try dsimp only at hSw); go_simp; (try with_reducible rfl))
      try simp only [Act.put, List.setIfInBounds_toArray, List.set_cons_zero, List.set_cons_succ]
      refine wpAnyH_take (i := 8) (oi := { dst := some 43, op := Op.load 5 (Operand.tmp 42), type := 5, pos := "law.go:33", after := #[{ on := 7, ground := Ground.data }], guard := none }) (v := ?_) rfl (by kernel_rfl) (by kernel_rfl) (by kernel_rfl) (fun _ _ _ h => h) (Or.inl ⟨by rfl, ?_⟩) (by assumption) ?_
      rotate_left
      · (intro wS hSw; (try dsimp only at hSw); go_simp; (try with_reducible rfl))
      try simp only [Act.put, List.setIfInBounds_toArray, List.set_cons_zero, List.set_cons_succ]
      refine wpAnyH_take (i := 9) (oi := { dst := some 44, op := Op.binOp BinOp.xor 5 (Operand.tmp 39) (Operand.tmp 43) 5, type := 5, pos := "law.go:33", after := #[{ on := 4, ground := Ground.data }, { on := 8, ground := Ground.data }], guard := none }) (v := ?_) rfl (by kernel_rfl) (by kernel_rfl) (by kernel_rfl) (fun _ _ _ h => h) (Or.inl ⟨by rfl, ?_⟩) (by assumption) ?_
      rotate_left
      · (intro wS hSw; (try dsimp only at hSw); go_simp; (try with_reducible rfl))
      try simp only [Act.put, List.setIfInBounds_toArray, List.set_cons_zero, List.set_cons_succ]
      refine wpAnyH_ready (rs := [10]) (by kernel_rfl) (by simp) ?_
      refine AllReadyH.cons (o := { dst := some 45, op := Op.buildSlice 22 1 #[(0, Operand.tmp 44)], type := 22, pos := "law.go:33", after := #[{ on := 9, ground := Ground.data }], guard := none }) rfl (fun K hK => ?_) AllReadyH.nil
      go_simp
      refine hK.out _ _ ?_ (fun hNew => ?_)
      · (first | exact keep9 l1 l2 hB0 hB1 | exact keep9 l1 l2 hB0 (hB1.alloc hsz2 _) | exact keep9 l1 l2 hB0 hB3 | assumption)
      clear hK K hHeld
      have hHeld := hNew
      clear hNew
      try simp only [Act.put, List.setIfInBounds_toArray, List.set_cons_zero, List.set_cons_succ]
      refine wpAnyH_ready (rs := [11]) (by kernel_rfl) (by simp) ?_
      refine AllReadyH.cons (o := { dst := some 46, op := Op.call { callee := Callee.builtin Builtin.append, args := #[Operand.tmp 35, Operand.tmp 45], argTypes := #[22, 22] }, type := 22, pos := "law.go:33", after := #[{ on := 0, ground := Ground.data }, { on := 10, ground := Ground.data }], guard := none }) rfl (fun K hK => ?_) AllReadyH.nil
      refine step_append_lies _ rfl _ _ 22 rfl w.heap.size 5 i0 (.int .u8 0) 1 1 Try.underlying22 hi hz0 hz1 hz2 rfl (by decide) u8 k _ rfl (ox1.alloc _) ⟨wr.heap.size, 0, none⟩ 1 1 [byteV (x ^^^ y)] rfl rfl (byte_cells (w := wr.drew) _) (one_cell _) (by decide) (by unfold maxLen; omega) (by omega) (by simp; omega) _ rfl ?_
      intro g cap w3 hown hgrow hat hlt3
      have oz3 := (oz1.alloc (.cells #[byteV (x ^^^ y)] 5)).kept hgrow (ne_flip hne')
      have hap := rows_apart hne' hat (fun j hj => ((oz1.alloc (.cells #[byteV (x ^^^ y)] 5)).lt j hj).2)
      have hB3 := (hB1.alloc hsz2 (.cells #[byteV (x ^^^ y)] 5)).grown hgrow (by simp; omega) (fun j hj => (ox1.lt j hj).1)
      have hsz3 := hB3.size
      refine hK.out _ _ ?_ (fun hNew => ?_)
      · (first | exact keep9 l1 l2 hB0 hB1 | exact keep9 l1 l2 hB0 (hB1.alloc hsz2 _) | exact keep9 l1 l2 hB0 hB3 | assumption)
      clear hK K hHeld
      have hHeld := hNew
      clear hNew
      try simp only [Act.put, List.setIfInBounds_toArray, List.set_cons_zero, List.set_cons_succ]
      refine wpAnyH_take (i := 12) (oi := { dst := some 8, op := Op.assign (Operand.tmp 46), type := 22, pos := "law.go:33", after := #[{ on := 11, ground := Ground.data }, { on := 11, ground := Ground.chain }, { on := 0, ground := Ground.phase }, { on := 1, ground := Ground.phase }, { on := 2, ground := Ground.phase }, { on := 3, ground := Ground.phase }, { on := 4, ground := Ground.phase }, { on := 5, ground := Ground.phase }, { on := 6, ground := Ground.phase }, { on := 7, ground := Ground.phase }, { on := 8, ground := Ground.phase }, { on := 9, ground := Ground.phase }, { on := 10, ground := Ground.phase }, { on := 11, ground := Ground.phase }], guard := none }) (v := ?_) rfl (by kernel_rfl) (by kernel_rfl) (by kernel_rfl) (fun _ _ _ h => h) (Or.inl ⟨by rfl, ?_⟩) (by assumption) ?_
      rotate_left
      · (intro wS hSw; (try dsimp only at hSw); go_simp; (try with_reducible rfl))
      try simp only [Act.put, List.setIfInBounds_toArray, List.set_cons_zero, List.set_cons_succ]
      refine wpAnyH_done (by kernel_rfl) ?_ _
      refine NoPanic.normal ?_
      clear ox oz ox1 oz1
      go_wp2_with (first
        | (at_builtin; refine wpList_append_lies _ rfl _ _ 22 rfl w.heap.size 5 i0 (.int .u8 0) 1 1 Try.underlying22 hi hz0 hz1 hz2 rfl (by decide) u9 k _ rfl (oz3.alloc _) ⟨w3.heap.size, 0, none⟩ 1 1 [byteV 0] rfl rfl (byte_cells _) (one_cell _) (by decide) (by unfold maxLen; omega) (by omega) (by simp; omega) _ rfl ?_; intro g2 cap2 w4 hown2 hgrow2 hat2 hlt4; have ox4 := (hown.alloc (.cells #[byteV 0] 5)).kept hgrow2 (Or.inr hap); have hap2 := rows_apart (ne_flip (Or.inr hap)) hat2 (fun j hj => ((hown.alloc (.cells #[byteV 0] 5)).lt j hj).2); have hB4 := (hB3.alloc hsz3 (.cells #[byteV 0] 5)).grown hgrow2 (by simp; omega) (fun j hj => (oz3.lt j hj).1)))
      refine ⟨⟨k + 1, by omega, by go_num, by rw [Hsn.out]; exact ox4, by rw [List.replicate_succ', List.map_append]; exact hown2, Or.inr (by intro h; exact hap2 h.symm), hB4⟩, by simp [intOf]; omega⟩
    · have hkN : k = cs.length := by omega
      subst hkN
      obtain ⟨X, cx, rfl, sx⟩ := own_slice ox
      obtain ⟨Z, cz, rfl, sz⟩ := own_slice oz
      have sb := h1.next hB0
      have sc := h2.next hB0
      clear ox oz hne h1 h2
      have hac : a ≤ c := by omega
      have hNc : cs.length ≤ c := by omega
      have hNd : cs.length ≤ d := by omega
      have tb : (bs.take (cs.length)).length = cs.length := by simp <;> omega
      have tc : (cs.take (cs.length)).length = cs.length := by simp <;> omega
      have hx8 := xorL8 (h80.take_ (cs.length)) (h82.take_ (cs.length))
      have tx : (xorL (bs.take (cs.length)) (cs.take (cs.length))).length = cs.length := (xorL_length _ _ (tb.trans tc.symm)).trans tb
      have e3 := crc_three (bs.take (cs.length)) (cs.take (cs.length)) (tb.trans tc.symm)
      rw [tb] at e3
      obtain ⟨S1, hS1⟩ : ∃ x, crcMore 0 bs = x := ⟨_, rfl⟩
      obtain ⟨Sa, hSa⟩ : ∃ x, crcMore 0 (bs.take a) = x := ⟨_, rfl⟩
      have ha1 : crcMore Sa (bs.drop a) = S1 := by rw [← hSa, crcMore_more, List.take_append_drop, hS1]
      have bSa : Sa < 4294967296 := by rw [← hSa]; exact crcMore_lt (by omega)
      obtain ⟨S2, hS2⟩ : ∃ x, crcMore 0 (bs.take (cs.length)) = x := ⟨_, rfl⟩
      obtain ⟨S3, hS3⟩ : ∃ x, crcMore 0 (cs.take (cs.length)) = x := ⟨_, rfl⟩
      obtain ⟨S4, hS4⟩ : ∃ x, crcMore 0 (List.replicate (cs.length) 0) = x := ⟨_, rfl⟩
      obtain ⟨S5, hS5⟩ : ∃ x, crcMore 0 (xorL (bs.take (cs.length)) (cs.take (cs.length))) = x := ⟨_, rfl⟩
      have b2' : S2 < 4294967296 := by rw [← hS2]; exact crcMore_lt (by omega)
      have b3' : S3 < 4294967296 := by rw [← hS3]; exact crcMore_lt (by omega)
      have b4' : S4 < 4294967296 := by rw [← hS4]; exact crcMore_lt (by omega)
      rw [hS5, hS2, hS3, hS4] at e3
      have x1 := u32_xor_nat S2 S3 b2' b3'
      have b5' : S2 ^^^ S3 < 4294967296 := Nat.xor_lt_two_pow (n := 32) b2' b3'
      obtain ⟨S6, hS6⟩ : ∃ x, S2 ^^^ S3 = x := ⟨_, rfl⟩
      rw [hS6] at e3 x1 b5'
      have x2 := u32_xor_nat S6 S4 b5' b4'
      rw [← e3] at x2
      have J1 := Lib.hid hS1
      have Ja := Lib.hid hSa
      have Jb := Lib.hid ha1
      have J2 := Lib.hid hS2
      have J3 := Lib.hid hS3
      have J4 := Lib.hid hS4
      have J5 := Lib.hid hS5
      clear hS1 hSa ha1 hS2 hS3 hS4 hS5 hS6 e3
      have Tb := Lib.hid tb
      have Tc := Lib.hid tc
      have Tx := Lib.hid tx
      clear tb tc tx
      go_wp2_with fail
      refine wp_region_noPanic ?_
      refine wp_region_held_drew (S := (fun w' => Below w.heap.size w w' ∧ wr.heap.size ≤ w'.heap.size ∧ ∀ (k o : Nat), k < wr.heap.size → w'.cell? ⟨k, o, none⟩ = wr.cell? ⟨k, o, none⟩)) (by kernel_rfl) ?_ (fun hHeld => ?_)
      · (first | exact ⟨below_dn hB0 1, by simp, by simp⟩ | exact kept_step (by assumption) hb3 | assumption)
      refine wpAnyH_take (i := 0) (oi := { dst := some 50, op := Op.move (Operand.tmp 0), type := 22, pos := "law.go:36", after := #[], guard := none }) (v := ?_) rfl (by kernel_rfl) (by kernel_rfl) (by kernel_rfl) (fun _ _ _ h => h) (Or.inl ⟨by rfl, ?_⟩) (by assumption) ?_
      rotate_left
      · (intro wS hSw; (try dsimp only at hSw); go_simp; (try with_reducible rfl))
      try simp only [Act.put, List.setIfInBounds_toArray, List.set_cons_zero, List.set_cons_succ]
      refine wpAnyH_take (i := 1) (oi := { dst := some 51, op := Op.move (Operand.tmp 1), type := 3, pos := "law.go:36", after := #[], guard := none }) (v := ?_) rfl (by kernel_rfl) (by kernel_rfl) (by kernel_rfl) (fun _ _ _ h => h) (Or.inl ⟨by rfl, ?_⟩) (by assumption) ?_
      rotate_left
      · (intro wS hSw; (try dsimp only at hSw); go_simp; (try with_reducible rfl))
      try simp only [Act.put, List.setIfInBounds_toArray, List.set_cons_zero, List.set_cons_succ]
      refine wpAnyH_take (i := 2) (oi := { dst := some 52, op := Op.slice 22 (Operand.tmp 50) none (some (Operand.tmp 51)) none, type := 22, pos := "law.go:36", after := #[{ on := 0, ground := Ground.data }, { on := 1, ground := Ground.data }], guard := none }) (v := ?_) rfl (by kernel_rfl) (by kernel_rfl) (by kernel_rfl) (fun _ _ _ h => h) (Or.inl ⟨by rfl, ?_⟩) (by assumption) ?_
      rotate_left
      · (intro wS hSw; (try dsimp only at hSw); go_simp; (try with_reducible rfl))
      try simp only [Act.put, List.setIfInBounds_toArray, List.set_cons_zero, List.set_cons_succ]
      refine wpAnyH_take (i := 4) (oi := { dst := some 54, op := Op.move (Operand.tmp 0), type := 22, pos := "law.go:36", after := #[], guard := none }) (v := ?_) rfl (by kernel_rfl) (by kernel_rfl) (by kernel_rfl) (fun _ _ _ h => h) (Or.inl ⟨by rfl, ?_⟩) (by assumption) ?_
      rotate_left
      · (intro wS hSw; (try dsimp only at hSw); go_simp; (try with_reducible rfl))
      try simp only [Act.put, List.setIfInBounds_toArray, List.set_cons_zero, List.set_cons_succ]
      refine wpAnyH_take (i := 5) (oi := { dst := some 55, op := Op.move (Operand.tmp 1), type := 3, pos := "law.go:36", after := #[], guard := none }) (v := ?_) rfl (by kernel_rfl) (by kernel_rfl) (by kernel_rfl) (fun _ _ _ h => h) (Or.inl ⟨by rfl, ?_⟩) (by assumption) ?_
      rotate_left
      · (intro wS hSw; (try dsimp only at hSw); go_simp; (try with_reducible rfl))
      try simp only [Act.put, List.setIfInBounds_toArray, List.set_cons_zero, List.set_cons_succ]
      refine wpAnyH_take (i := 6) (oi := { dst := some 56, op := Op.slice 22 (Operand.tmp 54) (some (Operand.tmp 55)) none none, type := 22, pos := "law.go:36", after := #[{ on := 4, ground := Ground.data }, { on := 5, ground := Ground.data }], guard := none }) (v := ?_) rfl (by kernel_rfl) (by kernel_rfl) (by kernel_rfl) (fun _ _ _ h => h) (Or.inl ⟨by rfl, ?_⟩) (by assumption) ?_
      rotate_left
      · (intro wS hSw; (try dsimp only at hSw); go_simp; (try with_reducible rfl))
      try simp only [Act.put, List.setIfInBounds_toArray, List.set_cons_zero, List.set_cons_succ]
      refine wpAnyH_take (i := 8) (oi := { dst := some 58, op := Op.move (Operand.tmp 0), type := 22, pos := "law.go:36", after := #[], guard := none }) (v := ?_) rfl (by kernel_rfl) (by kernel_rfl) (by kernel_rfl) (fun _ _ _ h => h) (Or.inl ⟨by rfl, ?_⟩) (by assumption) ?_
      rotate_left
      · (intro wS hSw; (try dsimp only at hSw); go_simp; (try with_reducible rfl))
      try simp only [Act.put, List.setIfInBounds_toArray, List.set_cons_zero, List.set_cons_succ]
      refine wpAnyH_ready (rs := [3]) (by kernel_rfl) (by simp) ?_
      refine AllReadyH.cons (o := { dst := some 53, op := Op.call { callee := Callee.value (Operand.func 8), args := #[Operand.tmp 52], argTypes := #[22] }, type := 23, pos := "law.go:36", after := #[{ on := 2, ground := Ground.data }], guard := none }) rfl (fun K hK => ?_) AllReadyH.nil
      go_simp
      (first
          | (go_at_call 6; refine (crcAwake_any _).mono ?_; rintro e' w3 ⟨rfl, hb3⟩)
          | (go_at_call 10; refine (more_n Sa (bs.drop a) _ _ _ _ (by simp) bSa (by rw [List.map_drop]; exact (sb.held hHeld.2.1 hHeld.2.2).drop_ a c (by simpa using hc)) (h80.drop_ a) (by simp; omega)).mono ?_; rw [Jb.out]; rintro e' w' ⟨rfl, rfl⟩)
          | (go_at_call 8; ((with_reducible refine (crcOf_n (bs.take a) (a) A c _ (by simp; omega) (by rw [List.map_take]; exact (sb.held hHeld.2.1 hHeld.2.2).take_ a) (h80.take_ a) (by first | omega | (simp; omega) | (rw [Tx.out]; omega))).mono ?_); rw [Ja.out]; rintro e' w' ⟨rfl, rfl⟩))
          | (go_at_call 8; ((with_reducible refine (crcOf_n bs (bs.length) A c _ rfl (sb.held hHeld.2.1 hHeld.2.2) h80 (by first | omega | (simp; omega) | (rw [Tx.out]; omega))).mono ?_); rw [J1.out]; rintro e' w' ⟨rfl, rfl⟩))
          | (go_at_call 8; ((with_reducible refine (crcOf_n (xorL (bs.take (cs.length)) (cs.take (cs.length))) (cs.length) X cx _ Tx.out.symm (sx.held hHeld.2.1 hHeld.2.2) hx8 (by first | omega | (simp; omega) | (rw [Tx.out]; omega))).mono ?_); rw [J5.out]; rintro e' w' ⟨rfl, rfl⟩))
          | (go_at_call 8; ((with_reducible refine (crcOf_n (bs.take (cs.length)) (cs.length) A c _ Tb.out.symm (by rw [List.map_take]; exact (sb.held hHeld.2.1 hHeld.2.2).take_ _) (h80.take_ _) (by first | omega | (simp; omega) | (rw [Tx.out]; omega))).mono ?_); rw [J2.out]; rintro e' w' ⟨rfl, rfl⟩))
          | (go_at_call 8; ((with_reducible refine (crcOf_n (cs.take (cs.length)) (cs.length) B d _ Tc.out.symm (by rw [List.map_take]; exact (sc.held hHeld.2.1 hHeld.2.2).take_ _) (h82.take_ _) (by first | omega | (simp; omega) | (rw [Tx.out]; omega))).mono ?_); rw [J3.out]; rintro e' w' ⟨rfl, rfl⟩))
          | (go_at_call 8; ((with_reducible refine (crcOf_n (List.replicate (cs.length) 0) (cs.length) Z cz _ (by simp) (sz.held hHeld.2.1 hHeld.2.2) (zeros8 _) (by first | omega | (simp; omega) | (rw [Tx.out]; omega))).mono ?_); rw [J4.out]; rintro e' w' ⟨rfl, rfl⟩)))
      go_simp
      refine hK.out _ _ ?_ (fun hNew => ?_)
      · (first | exact ⟨below_dn hB0 1, by simp, by simp⟩ | exact kept_step (by assumption) hb3 | assumption)
      clear hK K hHeld
      have hHeld := hNew
      clear hNew
      try simp only [Act.put, List.setIfInBounds_toArray, List.set_cons_zero, List.set_cons_succ]
      refine wpAnyH_ready (rs := [7]) (by kernel_rfl) (by simp) ?_
      refine AllReadyH.cons (o := { dst := some 57, op := Op.call { callee := Callee.value (Operand.func 10), args := #[Operand.tmp 53, Operand.tmp 56], argTypes := #[23, 22] }, type := 23, pos := "law.go:36", after := #[{ on := 3, ground := Ground.data }, { on := 6, ground := Ground.data }, { on := 3, ground := Ground.chain }], guard := none }) rfl (fun K hK => ?_) AllReadyH.nil
      go_simp
      (first
          | (go_at_call 6; refine (crcAwake_any _).mono ?_; rintro e' w3 ⟨rfl, hb3⟩)
          | (go_at_call 10; refine (more_n Sa (bs.drop a) _ _ _ _ (by simp) bSa (by rw [List.map_drop]; exact (sb.held hHeld.2.1 hHeld.2.2).drop_ a c (by simpa using hc)) (h80.drop_ a) (by simp; omega)).mono ?_; rw [Jb.out]; rintro e' w' ⟨rfl, rfl⟩)
          | (go_at_call 8; ((with_reducible refine (crcOf_n (bs.take a) (a) A c _ (by simp; omega) (by rw [List.map_take]; exact (sb.held hHeld.2.1 hHeld.2.2).take_ a) (h80.take_ a) (by first | omega | (simp; omega) | (rw [Tx.out]; omega))).mono ?_); rw [Ja.out]; rintro e' w' ⟨rfl, rfl⟩))
          | (go_at_call 8; ((with_reducible refine (crcOf_n bs (bs.length) A c _ rfl (sb.held hHeld.2.1 hHeld.2.2) h80 (by first | omega | (simp; omega) | (rw [Tx.out]; omega))).mono ?_); rw [J1.out]; rintro e' w' ⟨rfl, rfl⟩))
          | (go_at_call 8; ((with_reducible refine (crcOf_n (xorL (bs.take (cs.length)) (cs.take (cs.length))) (cs.length) X cx _ Tx.out.symm (sx.held hHeld.2.1 hHeld.2.2) hx8 (by first | omega | (simp; omega) | (rw [Tx.out]; omega))).mono ?_); rw [J5.out]; rintro e' w' ⟨rfl, rfl⟩))
          | (go_at_call 8; ((with_reducible refine (crcOf_n (bs.take (cs.length)) (cs.length) A c _ Tb.out.symm (by rw [List.map_take]; exact (sb.held hHeld.2.1 hHeld.2.2).take_ _) (h80.take_ _) (by first | omega | (simp; omega) | (rw [Tx.out]; omega))).mono ?_); rw [J2.out]; rintro e' w' ⟨rfl, rfl⟩))
          | (go_at_call 8; ((with_reducible refine (crcOf_n (cs.take (cs.length)) (cs.length) B d _ Tc.out.symm (by rw [List.map_take]; exact (sc.held hHeld.2.1 hHeld.2.2).take_ _) (h82.take_ _) (by first | omega | (simp; omega) | (rw [Tx.out]; omega))).mono ?_); rw [J3.out]; rintro e' w' ⟨rfl, rfl⟩))
          | (go_at_call 8; ((with_reducible refine (crcOf_n (List.replicate (cs.length) 0) (cs.length) Z cz _ (by simp) (sz.held hHeld.2.1 hHeld.2.2) (zeros8 _) (by first | omega | (simp; omega) | (rw [Tx.out]; omega))).mono ?_); rw [J4.out]; rintro e' w' ⟨rfl, rfl⟩)))
      go_simp
      refine hK.out _ _ ?_ (fun hNew => ?_)
      · (first | exact ⟨below_dn hB0 1, by simp, by simp⟩ | exact kept_step (by assumption) hb3 | assumption)
      clear hK K hHeld
      have hHeld := hNew
      clear hNew
      try simp only [Act.put, List.setIfInBounds_toArray, List.set_cons_zero, List.set_cons_succ]
      refine wpAnyH_ready (rs := [9]) (by kernel_rfl) (by simp) ?_
      refine AllReadyH.cons (o := { dst := some 59, op := Op.call { callee := Callee.value (Operand.func 8), args := #[Operand.tmp 58], argTypes := #[22] }, type := 23, pos := "law.go:36", after := #[{ on := 8, ground := Ground.data }, { on := 7, ground := Ground.chain }], guard := none }) rfl (fun K hK => ?_) AllReadyH.nil
      go_simp
      (first
          | (go_at_call 6; refine (crcAwake_any _).mono ?_; rintro e' w3 ⟨rfl, hb3⟩)
          | (go_at_call 10; refine (more_n Sa (bs.drop a) _ _ _ _ (by simp) bSa (by rw [List.map_drop]; exact (sb.held hHeld.2.1 hHeld.2.2).drop_ a c (by simpa using hc)) (h80.drop_ a) (by simp; omega)).mono ?_; rw [Jb.out]; rintro e' w' ⟨rfl, rfl⟩)
          | (go_at_call 8; ((with_reducible refine (crcOf_n (bs.take a) (a) A c _ (by simp; omega) (by rw [List.map_take]; exact (sb.held hHeld.2.1 hHeld.2.2).take_ a) (h80.take_ a) (by first | omega | (simp; omega) | (rw [Tx.out]; omega))).mono ?_); rw [Ja.out]; rintro e' w' ⟨rfl, rfl⟩))
          | (go_at_call 8; ((with_reducible refine (crcOf_n bs (bs.length) A c _ rfl (sb.held hHeld.2.1 hHeld.2.2) h80 (by first | omega | (simp; omega) | (rw [Tx.out]; omega))).mono ?_); rw [J1.out]; rintro e' w' ⟨rfl, rfl⟩))
          | (go_at_call 8; ((with_reducible refine (crcOf_n (xorL (bs.take (cs.length)) (cs.take (cs.length))) (cs.length) X cx _ Tx.out.symm (sx.held hHeld.2.1 hHeld.2.2) hx8 (by first | omega | (simp; omega) | (rw [Tx.out]; omega))).mono ?_); rw [J5.out]; rintro e' w' ⟨rfl, rfl⟩))
          | (go_at_call 8; ((with_reducible refine (crcOf_n (bs.take (cs.length)) (cs.length) A c _ Tb.out.symm (by rw [List.map_take]; exact (sb.held hHeld.2.1 hHeld.2.2).take_ _) (h80.take_ _) (by first | omega | (simp; omega) | (rw [Tx.out]; omega))).mono ?_); rw [J2.out]; rintro e' w' ⟨rfl, rfl⟩))
          | (go_at_call 8; ((with_reducible refine (crcOf_n (cs.take (cs.length)) (cs.length) B d _ Tc.out.symm (by rw [List.map_take]; exact (sc.held hHeld.2.1 hHeld.2.2).take_ _) (h82.take_ _) (by first | omega | (simp; omega) | (rw [Tx.out]; omega))).mono ?_); rw [J3.out]; rintro e' w' ⟨rfl, rfl⟩))
          | (go_at_call 8; ((with_reducible refine (crcOf_n (List.replicate (cs.length) 0) (cs.length) Z cz _ (by simp) (sz.held hHeld.2.1 hHeld.2.2) (zeros8 _) (by first | omega | (simp; omega) | (rw [Tx.out]; omega))).mono ?_); rw [J4.out]; rintro e' w' ⟨rfl, rfl⟩)))
      go_simp
      refine hK.out _ _ ?_ (fun hNew => ?_)
      · (first | exact ⟨below_dn hB0 1, by simp, by simp⟩ | exact kept_step (by assumption) hb3 | assumption)
      clear hK K hHeld
      have hHeld := hNew
      clear hNew
      try simp only [Act.put, List.setIfInBounds_toArray, List.set_cons_zero, List.set_cons_succ]
      refine wpAnyH_take (i := 10) (oi := { dst := some 60, op := Op.binOp BinOp.eql 23 (Operand.tmp 57) (Operand.tmp 59) 23, type := 4, pos := "law.go:36", after := #[{ on := 7, ground := Ground.data }, { on := 9, ground := Ground.data }], guard := none }) (v := ?_) rfl (by kernel_rfl) (by kernel_rfl) (by kernel_rfl) (fun _ _ _ h => h) (Or.inl ⟨by rfl, ?_⟩) (by assumption) ?_
      rotate_left
      · (intro wS hSw; (try dsimp only at hSw); go_simp; (try with_reducible rfl))
      try simp only [Act.put, List.setIfInBounds_toArray, List.set_cons_zero, List.set_cons_succ]
      refine wpAnyH_take (i := 11) (oi := { dst := some 61, op := Op.move (Operand.tmp 60), type := 4, pos := "law.go:36", after := #[{ on := 10, ground := Ground.data }, { on := 9, ground := Ground.chain }], guard := none }) (v := ?_) rfl (by kernel_rfl) (by kernel_rfl) (by kernel_rfl) (fun _ _ _ h => h) (Or.inl ⟨by rfl, ?_⟩) (by assumption) ?_
      rotate_left
      · (intro wS hSw; (try dsimp only at hSw); go_simp; (try with_reducible rfl))
      try simp only [Act.put, List.setIfInBounds_toArray, List.set_cons_zero, List.set_cons_succ]
      refine wpAnyH_take (i := 12) (oi := { dst := some 62, op := Op.move (Operand.tmp 8), type := 22, pos := "law.go:36", after := #[{ on := 11, ground := Ground.guard }], guard := some (11, true) }) (v := ?_) rfl (by kernel_rfl) (by kernel_rfl) (by kernel_rfl) (fun _ _ _ h => h) (Or.inl ⟨by rfl, ?_⟩) (by assumption) ?_
      rotate_left
      · (intro wS hSw; (try dsimp only at hSw); go_simp; (try with_reducible rfl))
      try simp only [Act.put, List.setIfInBounds_toArray, List.set_cons_zero, List.set_cons_succ]
      refine wpAnyH_take (i := 14) (oi := { dst := some 64, op := Op.move (Operand.tmp 0), type := 22, pos := "law.go:36", after := #[{ on := 11, ground := Ground.guard }], guard := some (11, true) }) (v := ?_) rfl (by kernel_rfl) (by kernel_rfl) (by kernel_rfl) (fun _ _ _ h => h) (Or.inl ⟨by rfl, ?_⟩) (by assumption) ?_
      rotate_left
      · (intro wS hSw; (try dsimp only at hSw); go_simp; (try with_reducible rfl))
      try simp only [Act.put, List.setIfInBounds_toArray, List.set_cons_zero, List.set_cons_succ]
      refine wpAnyH_take (i := 15) (oi := { dst := some 65, op := Op.move (Operand.tmp 7), type := 3, pos := "law.go:36", after := #[{ on := 11, ground := Ground.guard }], guard := some (11, true) }) (v := ?_) rfl (by kernel_rfl) (by kernel_rfl) (by kernel_rfl) (fun _ _ _ h => h) (Or.inl ⟨by rfl, ?_⟩) (by assumption) ?_
      rotate_left
      · (intro wS hSw; (try dsimp only at hSw); go_simp; (try with_reducible rfl))
      try simp only [Act.put, List.setIfInBounds_toArray, List.set_cons_zero, List.set_cons_succ]
      refine wpAnyH_take (i := 16) (oi := { dst := some 66, op := Op.slice 22 (Operand.tmp 64) none (some (Operand.tmp 65)) none, type := 22, pos := "law.go:36", after := #[{ on := 14, ground := Ground.data }, { on := 15, ground := Ground.data }, { on := 11, ground := Ground.guard }], guard := some (11, true) }) (v := ?_) rfl (by kernel_rfl) (by kernel_rfl) (by kernel_rfl) (fun _ _ _ h => h) (Or.inl ⟨by rfl, ?_⟩) (by assumption) ?_
      rotate_left
      · (intro wS hSw; (try dsimp only at hSw); go_simp; (try with_reducible rfl))
      try simp only [Act.put, List.setIfInBounds_toArray, List.set_cons_zero, List.set_cons_succ]
      refine wpAnyH_take (i := 18) (oi := { dst := some 68, op := Op.move (Operand.tmp 2), type := 22, pos := "law.go:36", after := #[{ on := 11, ground := Ground.guard }], guard := some (11, true) }) (v := ?_) rfl (by kernel_rfl) (by kernel_rfl) (by kernel_rfl) (fun _ _ _ h => h) (Or.inl ⟨by rfl, ?_⟩) (by assumption) ?_
      rotate_left
      · (intro wS hSw; (try dsimp only at hSw); go_simp; (try with_reducible rfl))
      try simp only [Act.put, List.setIfInBounds_toArray, List.set_cons_zero, List.set_cons_succ]
      refine wpAnyH_take (i := 19) (oi := { dst := some 69, op := Op.move (Operand.tmp 7), type := 3, pos := "law.go:36", after := #[{ on := 11, ground := Ground.guard }], guard := some (11, true) }) (v := ?_) rfl (by kernel_rfl) (by kernel_rfl) (by kernel_rfl) (fun _ _ _ h => h) (Or.inl ⟨by rfl, ?_⟩) (by assumption) ?_
      rotate_left
      · (intro wS hSw; (try dsimp only at hSw); go_simp; (try with_reducible rfl))
      try simp only [Act.put, List.setIfInBounds_toArray, List.set_cons_zero, List.set_cons_succ]
      refine wpAnyH_take (i := 20) (oi := { dst := some 70, op := Op.slice 22 (Operand.tmp 68) none (some (Operand.tmp 69)) none, type := 22, pos := "law.go:36", after := #[{ on := 18, ground := Ground.data }, { on := 19, ground := Ground.data }, { on := 11, ground := Ground.guard }], guard := some (11, true) }) (v := ?_) rfl (by kernel_rfl) (by kernel_rfl) (by kernel_rfl) (fun _ _ _ h => h) (Or.inl ⟨by rfl, ?_⟩) (by assumption) ?_
      rotate_left
      · (intro wS hSw; (try dsimp only at hSw); go_simp; (try with_reducible rfl))
      try simp only [Act.put, List.setIfInBounds_toArray, List.set_cons_zero, List.set_cons_succ]
      refine wpAnyH_take (i := 23) (oi := { dst := some 73, op := Op.move (Operand.tmp 9), type := 22, pos := "law.go:36", after := #[{ on := 11, ground := Ground.guard }], guard := some (11, true) }) (v := ?_) rfl (by kernel_rfl) (by kernel_rfl) (by kernel_rfl) (fun _ _ _ h => h) (Or.inl ⟨by rfl, ?_⟩) (by assumption) ?_
      rotate_left
      · (intro wS hSw; (try dsimp only at hSw); go_simp; (try with_reducible rfl))
      try simp only [Act.put, List.setIfInBounds_toArray, List.set_cons_zero, List.set_cons_succ]
      refine wpAnyH_ready (rs := [13]) (by kernel_rfl) (by simp) ?_
      refine AllReadyH.cons (o := { dst := some 63, op := Op.call { callee := Callee.value (Operand.func 8), args := #[Operand.tmp 62], argTypes := #[22] }, type := 23, pos := "law.go:36", after := #[{ on := 12, ground := Ground.data }, { on := 11, ground := Ground.chain }, { on := 11, ground := Ground.guard }], guard := some (11, true) }) rfl (fun K hK => ?_) AllReadyH.nil
      go_simp
      (first
          | (go_at_call 6; refine (crcAwake_any _).mono ?_; rintro e' w3 ⟨rfl, hb3⟩)
          | (go_at_call 10; refine (more_n Sa (bs.drop a) _ _ _ _ (by simp) bSa (by rw [List.map_drop]; exact (sb.held hHeld.2.1 hHeld.2.2).drop_ a c (by simpa using hc)) (h80.drop_ a) (by simp; omega)).mono ?_; rw [Jb.out]; rintro e' w' ⟨rfl, rfl⟩)
          | (go_at_call 8; ((with_reducible refine (crcOf_n (bs.take a) (a) A c _ (by simp; omega) (by rw [List.map_take]; exact (sb.held hHeld.2.1 hHeld.2.2).take_ a) (h80.take_ a) (by first | omega | (simp; omega) | (rw [Tx.out]; omega))).mono ?_); rw [Ja.out]; rintro e' w' ⟨rfl, rfl⟩))
          | (go_at_call 8; ((with_reducible refine (crcOf_n bs (bs.length) A c _ rfl (sb.held hHeld.2.1 hHeld.2.2) h80 (by first | omega | (simp; omega) | (rw [Tx.out]; omega))).mono ?_); rw [J1.out]; rintro e' w' ⟨rfl, rfl⟩))
          | (go_at_call 8; ((with_reducible refine (crcOf_n (xorL (bs.take (cs.length)) (cs.take (cs.length))) (cs.length) X cx _ Tx.out.symm (sx.held hHeld.2.1 hHeld.2.2) hx8 (by first | omega | (simp; omega) | (rw [Tx.out]; omega))).mono ?_); rw [J5.out]; rintro e' w' ⟨rfl, rfl⟩))
          | (go_at_call 8; ((with_reducible refine (crcOf_n (bs.take (cs.length)) (cs.length) A c _ Tb.out.symm (by rw [List.map_take]; exact (sb.held hHeld.2.1 hHeld.2.2).take_ _) (h80.take_ _) (by first | omega | (simp; omega) | (rw [Tx.out]; omega))).mono ?_); rw [J2.out]; rintro e' w' ⟨rfl, rfl⟩))
          | (go_at_call 8; ((with_reducible refine (crcOf_n (cs.take (cs.length)) (cs.length) B d _ Tc.out.symm (by rw [List.map_take]; exact (sc.held hHeld.2.1 hHeld.2.2).take_ _) (h82.take_ _) (by first | omega | (simp; omega) | (rw [Tx.out]; omega))).mono ?_); rw [J3.out]; rintro e' w' ⟨rfl, rfl⟩))
          | (go_at_call 8; ((with_reducible refine (crcOf_n (List.replicate (cs.length) 0) (cs.length) Z cz _ (by simp) (sz.held hHeld.2.1 hHeld.2.2) (zeros8 _) (by first | omega | (simp; omega) | (rw [Tx.out]; omega))).mono ?_); rw [J4.out]; rintro e' w' ⟨rfl, rfl⟩)))
      go_simp
      refine hK.out _ _ ?_ (fun hNew => ?_)
      · (first | exact ⟨below_dn hB0 1, by simp, by simp⟩ | exact kept_step (by assumption) hb3 | assumption)
      clear hK K hHeld
      have hHeld := hNew
      clear hNew
      try simp only [Act.put, List.setIfInBounds_toArray, List.set_cons_zero, List.set_cons_succ]
      refine wpAnyH_ready (rs := [17]) (by kernel_rfl) (by simp) ?_
      refine AllReadyH.cons (o := { dst := some 67, op := Op.call { callee := Callee.value (Operand.func 8), args := #[Operand.tmp 66], argTypes := #[22] }, type := 23, pos := "law.go:36", after := #[{ on := 16, ground := Ground.data }, { on := 13, ground := Ground.chain }, { on := 11, ground := Ground.guard }], guard := some (11, true) }) rfl (fun K hK => ?_) AllReadyH.nil
      go_simp
      (first
          | (go_at_call 6; refine (crcAwake_any _).mono ?_; rintro e' w3 ⟨rfl, hb3⟩)
          | (go_at_call 10; refine (more_n Sa (bs.drop a) _ _ _ _ (by simp) bSa (by rw [List.map_drop]; exact (sb.held hHeld.2.1 hHeld.2.2).drop_ a c (by simpa using hc)) (h80.drop_ a) (by simp; omega)).mono ?_; rw [Jb.out]; rintro e' w' ⟨rfl, rfl⟩)
          | (go_at_call 8; ((with_reducible refine (crcOf_n (bs.take a) (a) A c _ (by simp; omega) (by rw [List.map_take]; exact (sb.held hHeld.2.1 hHeld.2.2).take_ a) (h80.take_ a) (by first | omega | (simp; omega) | (rw [Tx.out]; omega))).mono ?_); rw [Ja.out]; rintro e' w' ⟨rfl, rfl⟩))
          | (go_at_call 8; ((with_reducible refine (crcOf_n bs (bs.length) A c _ rfl (sb.held hHeld.2.1 hHeld.2.2) h80 (by first | omega | (simp; omega) | (rw [Tx.out]; omega))).mono ?_); rw [J1.out]; rintro e' w' ⟨rfl, rfl⟩))
          | (go_at_call 8; ((with_reducible refine (crcOf_n (xorL (bs.take (cs.length)) (cs.take (cs.length))) (cs.length) X cx _ Tx.out.symm (sx.held hHeld.2.1 hHeld.2.2) hx8 (by first | omega | (simp; omega) | (rw [Tx.out]; omega))).mono ?_); rw [J5.out]; rintro e' w' ⟨rfl, rfl⟩))
          | (go_at_call 8; ((with_reducible refine (crcOf_n (bs.take (cs.length)) (cs.length) A c _ Tb.out.symm (by rw [List.map_take]; exact (sb.held hHeld.2.1 hHeld.2.2).take_ _) (h80.take_ _) (by first | omega | (simp; omega) | (rw [Tx.out]; omega))).mono ?_); rw [J2.out]; rintro e' w' ⟨rfl, rfl⟩))
          | (go_at_call 8; ((with_reducible refine (crcOf_n (cs.take (cs.length)) (cs.length) B d _ Tc.out.symm (by rw [List.map_take]; exact (sc.held hHeld.2.1 hHeld.2.2).take_ _) (h82.take_ _) (by first | omega | (simp; omega) | (rw [Tx.out]; omega))).mono ?_); rw [J3.out]; rintro e' w' ⟨rfl, rfl⟩))
          | (go_at_call 8; ((with_reducible refine (crcOf_n (List.replicate (cs.length) 0) (cs.length) Z cz _ (by simp) (sz.held hHeld.2.1 hHeld.2.2) (zeros8 _) (by first | omega | (simp; omega) | (rw [Tx.out]; omega))).mono ?_); rw [J4.out]; rintro e' w' ⟨rfl, rfl⟩)))
      go_simp
      refine hK.out _ _ ?_ (fun hNew => ?_)
      · (first | exact ⟨below_dn hB0 1, by simp, by simp⟩ | exact kept_step (by assumption) hb3 | assumption)
      clear hK K hHeld
      have hHeld := hNew
      clear hNew
      try simp only [Act.put, List.setIfInBounds_toArray, List.set_cons_zero, List.set_cons_succ]
      refine wpAnyH_ready (rs := [21]) (by kernel_rfl) (by simp) ?_
      refine AllReadyH.cons (o := { dst := some 71, op := Op.call { callee := Callee.value (Operand.func 8), args := #[Operand.tmp 70], argTypes := #[22] }, type := 23, pos := "law.go:36", after := #[{ on := 20, ground := Ground.data }, { on := 17, ground := Ground.chain }, { on := 11, ground := Ground.guard }], guard := some (11, true) }) rfl (fun K hK => ?_) AllReadyH.nil
      go_simp
      (first
          | (go_at_call 6; refine (crcAwake_any _).mono ?_; rintro e' w3 ⟨rfl, hb3⟩)
          | (go_at_call 10; refine (more_n Sa (bs.drop a) _ _ _ _ (by simp) bSa (by rw [List.map_drop]; exact (sb.held hHeld.2.1 hHeld.2.2).drop_ a c (by simpa using hc)) (h80.drop_ a) (by simp; omega)).mono ?_; rw [Jb.out]; rintro e' w' ⟨rfl, rfl⟩)
          | (go_at_call 8; ((with_reducible refine (crcOf_n (bs.take a) (a) A c _ (by simp; omega) (by rw [List.map_take]; exact (sb.held hHeld.2.1 hHeld.2.2).take_ a) (h80.take_ a) (by first | omega | (simp; omega) | (rw [Tx.out]; omega))).mono ?_); rw [Ja.out]; rintro e' w' ⟨rfl, rfl⟩))
          | (go_at_call 8; ((with_reducible refine (crcOf_n bs (bs.length) A c _ rfl (sb.held hHeld.2.1 hHeld.2.2) h80 (by first | omega | (simp; omega) | (rw [Tx.out]; omega))).mono ?_); rw [J1.out]; rintro e' w' ⟨rfl, rfl⟩))
          | (go_at_call 8; ((with_reducible refine (crcOf_n (xorL (bs.take (cs.length)) (cs.take (cs.length))) (cs.length) X cx _ Tx.out.symm (sx.held hHeld.2.1 hHeld.2.2) hx8 (by first | omega | (simp; omega) | (rw [Tx.out]; omega))).mono ?_); rw [J5.out]; rintro e' w' ⟨rfl, rfl⟩))
          | (go_at_call 8; ((with_reducible refine (crcOf_n (bs.take (cs.length)) (cs.length) A c _ Tb.out.symm (by rw [List.map_take]; exact (sb.held hHeld.2.1 hHeld.2.2).take_ _) (h80.take_ _) (by first | omega | (simp; omega) | (rw [Tx.out]; omega))).mono ?_); rw [J2.out]; rintro e' w' ⟨rfl, rfl⟩))
          | (go_at_call 8; ((with_reducible refine (crcOf_n (cs.take (cs.length)) (cs.length) B d _ Tc.out.symm (by rw [List.map_take]; exact (sc.held hHeld.2.1 hHeld.2.2).take_ _) (h82.take_ _) (by first | omega | (simp; omega) | (rw [Tx.out]; omega))).mono ?_); rw [J3.out]; rintro e' w' ⟨rfl, rfl⟩))
          | (go_at_call 8; ((with_reducible refine (crcOf_n (List.replicate (cs.length) 0) (cs.length) Z cz _ (by simp) (sz.held hHeld.2.1 hHeld.2.2) (zeros8 _) (by first | omega | (simp; omega) | (rw [Tx.out]; omega))).mono ?_); rw [J4.out]; rintro e' w' ⟨rfl, rfl⟩)))
      go_simp
      refine hK.out _ _ ?_ (fun hNew => ?_)
      · (first | exact ⟨below_dn hB0 1, by simp, by simp⟩ | exact kept_step (by assumption) hb3 | assumption)
      clear hK K hHeld
      have hHeld := hNew
      clear hNew
      try simp only [Act.put, List.setIfInBounds_toArray, List.set_cons_zero, List.set_cons_succ]
      refine wpAnyH_take (i := 22) (oi := { dst := some 72, op := Op.binOp BinOp.xor 23 (Operand.tmp 67) (Operand.tmp 71) 23, type := 23, pos := "law.go:36", after := #[{ on := 17, ground := Ground.data }, { on := 21, ground := Ground.data }, { on := 11, ground := Ground.guard }], guard := some (11, true) }) (v := ?_) rfl (by kernel_rfl) (by kernel_rfl) (by kernel_rfl) (fun _ _ _ h => h) (Or.inl ⟨by rfl, ?_⟩) (by assumption) ?_
      rotate_left
      · (intro wS hSw; (try dsimp only at hSw); go_simp; (try with_reducible rfl))
      try simp only [Act.put, List.setIfInBounds_toArray, List.set_cons_zero, List.set_cons_succ]
      refine wpAnyH_ready (rs := [24]) (by kernel_rfl) (by simp) ?_
      refine AllReadyH.cons (o := { dst := some 74, op := Op.call { callee := Callee.value (Operand.func 8), args := #[Operand.tmp 73], argTypes := #[22] }, type := 23, pos := "law.go:36", after := #[{ on := 23, ground := Ground.data }, { on := 21, ground := Ground.chain }, { on := 11, ground := Ground.guard }], guard := some (11, true) }) rfl (fun K hK => ?_) AllReadyH.nil
      go_simp
      (first
          | (go_at_call 6; refine (crcAwake_any _).mono ?_; rintro e' w3 ⟨rfl, hb3⟩)
          | (go_at_call 10; refine (more_n Sa (bs.drop a) _ _ _ _ (by simp) bSa (by rw [List.map_drop]; exact (sb.held hHeld.2.1 hHeld.2.2).drop_ a c (by simpa using hc)) (h80.drop_ a) (by simp; omega)).mono ?_; rw [Jb.out]; rintro e' w' ⟨rfl, rfl⟩)
          | (go_at_call 8; ((with_reducible refine (crcOf_n (bs.take a) (a) A c _ (by simp; omega) (by rw [List.map_take]; exact (sb.held hHeld.2.1 hHeld.2.2).take_ a) (h80.take_ a) (by first | omega | (simp; omega) | (rw [Tx.out]; omega))).mono ?_); rw [Ja.out]; rintro e' w' ⟨rfl, rfl⟩))
          | (go_at_call 8; ((with_reducible refine (crcOf_n bs (bs.length) A c _ rfl (sb.held hHeld.2.1 hHeld.2.2) h80 (by first | omega | (simp; omega) | (rw [Tx.out]; omega))).mono ?_); rw [J1.out]; rintro e' w' ⟨rfl, rfl⟩))
          | (go_at_call 8; ((with_reducible refine (crcOf_n (xorL (bs.take (cs.length)) (cs.take (cs.length))) (cs.length) X cx _ Tx.out.symm (sx.held hHeld.2.1 hHeld.2.2) hx8 (by first | omega | (simp; omega) | (rw [Tx.out]; omega))).mono ?_); rw [J5.out]; rintro e' w' ⟨rfl, rfl⟩))
          | (go_at_call 8; ((with_reducible refine (crcOf_n (bs.take (cs.length)) (cs.length) A c _ Tb.out.symm (by rw [List.map_take]; exact (sb.held hHeld.2.1 hHeld.2.2).take_ _) (h80.take_ _) (by first | omega | (simp; omega) | (rw [Tx.out]; omega))).mono ?_); rw [J2.out]; rintro e' w' ⟨rfl, rfl⟩))
          | (go_at_call 8; ((with_reducible refine (crcOf_n (cs.take (cs.length)) (cs.length) B d _ Tc.out.symm (by rw [List.map_take]; exact (sc.held hHeld.2.1 hHeld.2.2).take_ _) (h82.take_ _) (by first | omega | (simp; omega) | (rw [Tx.out]; omega))).mono ?_); rw [J3.out]; rintro e' w' ⟨rfl, rfl⟩))
          | (go_at_call 8; ((with_reducible refine (crcOf_n (List.replicate (cs.length) 0) (cs.length) Z cz _ (by simp) (sz.held hHeld.2.1 hHeld.2.2) (zeros8 _) (by first | omega | (simp; omega) | (rw [Tx.out]; omega))).mono ?_); rw [J4.out]; rintro e' w' ⟨rfl, rfl⟩)))
      go_simp
      refine hK.out _ _ ?_ (fun hNew => ?_)
      · (first | exact ⟨below_dn hB0 1, by simp, by simp⟩ | exact kept_step (by assumption) hb3 | assumption)
      clear hK K hHeld
      have hHeld := hNew
      clear hNew
      try simp only [Act.put, List.setIfInBounds_toArray, List.set_cons_zero, List.set_cons_succ]
      refine wpAnyH_take (i := 25) (oi := { dst := some 75, op := Op.binOp BinOp.xor 23 (Operand.tmp 72) (Operand.tmp 74) 23, type := 23, pos := "law.go:36", after := #[{ on := 22, ground := Ground.data }, { on := 24, ground := Ground.data }, { on := 11, ground := Ground.guard }], guard := some (11, true) }) (v := ?_) rfl (by kernel_rfl) (by kernel_rfl) (by kernel_rfl) (fun _ _ _ h => h) (Or.inl ⟨by rfl, ?_⟩) (by assumption) ?_
      rotate_left
      · (intro wS hSw; (try dsimp only at hSw); go_simp; (try with_reducible rfl))
      try simp only [Act.put, List.setIfInBounds_toArray, List.set_cons_zero, List.set_cons_succ]
      refine wpAnyH_take (i := 26) (oi := { dst := some 76, op := Op.binOp BinOp.eql 23 (Operand.tmp 63) (Operand.tmp 75) 23, type := 4, pos := "law.go:36", after := #[{ on := 13, ground := Ground.data }, { on := 25, ground := Ground.data }, { on := 11, ground := Ground.guard }], guard := some (11, true) }) (v := ?_) rfl (by kernel_rfl) (by kernel_rfl) (by kernel_rfl) (fun _ _ _ h => h) (Or.inl ⟨by rfl, ?_⟩) (by assumption) ?_
      rotate_left
      · (intro wS hSw; (try dsimp only at hSw); go_simp; (try with_reducible rfl))
      try simp only [Act.put, List.setIfInBounds_toArray, List.set_cons_zero, List.set_cons_succ]
      refine wpAnyH_take (i := 27) (oi := { dst := some 77, op := Op.pick (Operand.tmp 61) (Operand.tmp 76) (Operand.const (Value.bool false)), type := 4, pos := "law.go:36", after := #[{ on := 11, ground := Ground.data }, { on := 26, ground := Ground.data }], guard := none }) (v := ?_) rfl (by kernel_rfl) (by kernel_rfl) (by kernel_rfl) (fun _ _ _ h => h) (Or.inl ⟨by rfl, ?_⟩) (by assumption) ?_
      rotate_left
      · (intro wS hSw; (try dsimp only at hSw); go_simp; (try with_reducible rfl))
      try simp only [Act.put, List.setIfInBounds_toArray, List.set_cons_zero, List.set_cons_succ]
      refine wpAnyH_take (i := 28) (oi := { dst := some 78, op := Op.move (Operand.tmp 77), type := 4, pos := "law.go:36", after := #[{ on := 27, ground := Ground.data }, { on := 24, ground := Ground.chain }], guard := none }) (v := ?_) rfl (by kernel_rfl) (by kernel_rfl) (by kernel_rfl) (fun _ _ _ h => h) (Or.inl ⟨by rfl, ?_⟩) (by assumption) ?_
      rotate_left
      · (intro wS hSw; (try dsimp only at hSw); go_simp; (try with_reducible rfl))
      try simp only [Act.put, List.setIfInBounds_toArray, List.set_cons_zero, List.set_cons_succ]
      refine wpAnyH_ready (rs := [29]) (by kernel_rfl) (by simp) ?_
      refine AllReadyH.cons (o := { dst := some 79, op := Op.call { callee := Callee.value (Operand.func 6), args := #[], argTypes := #[] }, type := 4, pos := "law.go:36", after := #[{ on := 28, ground := Ground.chain }, { on := 28, ground := Ground.guard }], guard := some (28, true) }) rfl (fun K hK => ?_) AllReadyH.nil
      go_simp
      (first
          | (go_at_call 6; refine (crcAwake_any _).mono ?_; rintro e' w3 ⟨rfl, hb3⟩)
          | (go_at_call 10; refine (more_n Sa (bs.drop a) _ _ _ _ (by simp) bSa (by rw [List.map_drop]; exact (sb.held hHeld.2.1 hHeld.2.2).drop_ a c (by simpa using hc)) (h80.drop_ a) (by simp; omega)).mono ?_; rw [Jb.out]; rintro e' w' ⟨rfl, rfl⟩)
          | (go_at_call 8; ((with_reducible refine (crcOf_n (bs.take a) (a) A c _ (by simp; omega) (by rw [List.map_take]; exact (sb.held hHeld.2.1 hHeld.2.2).take_ a) (h80.take_ a) (by first | omega | (simp; omega) | (rw [Tx.out]; omega))).mono ?_); rw [Ja.out]; rintro e' w' ⟨rfl, rfl⟩))
          | (go_at_call 8; ((with_reducible refine (crcOf_n bs (bs.length) A c _ rfl (sb.held hHeld.2.1 hHeld.2.2) h80 (by first | omega | (simp; omega) | (rw [Tx.out]; omega))).mono ?_); rw [J1.out]; rintro e' w' ⟨rfl, rfl⟩))
          | (go_at_call 8; ((with_reducible refine (crcOf_n (xorL (bs.take (cs.length)) (cs.take (cs.length))) (cs.length) X cx _ Tx.out.symm (sx.held hHeld.2.1 hHeld.2.2) hx8 (by first | omega | (simp; omega) | (rw [Tx.out]; omega))).mono ?_); rw [J5.out]; rintro e' w' ⟨rfl, rfl⟩))
          | (go_at_call 8; ((with_reducible refine (crcOf_n (bs.take (cs.length)) (cs.length) A c _ Tb.out.symm (by rw [List.map_take]; exact (sb.held hHeld.2.1 hHeld.2.2).take_ _) (h80.take_ _) (by first | omega | (simp; omega) | (rw [Tx.out]; omega))).mono ?_); rw [J2.out]; rintro e' w' ⟨rfl, rfl⟩))
          | (go_at_call 8; ((with_reducible refine (crcOf_n (cs.take (cs.length)) (cs.length) B d _ Tc.out.symm (by rw [List.map_take]; exact (sc.held hHeld.2.1 hHeld.2.2).take_ _) (h82.take_ _) (by first | omega | (simp; omega) | (rw [Tx.out]; omega))).mono ?_); rw [J3.out]; rintro e' w' ⟨rfl, rfl⟩))
          | (go_at_call 8; ((with_reducible refine (crcOf_n (List.replicate (cs.length) 0) (cs.length) Z cz _ (by simp) (sz.held hHeld.2.1 hHeld.2.2) (zeros8 _) (by first | omega | (simp; omega) | (rw [Tx.out]; omega))).mono ?_); rw [J4.out]; rintro e' w' ⟨rfl, rfl⟩)))
      go_simp
      refine hK.out _ _ ?_ (fun hNew => ?_)
      · (first | exact ⟨below_dn hB0 1, by simp, by simp⟩ | exact kept_step (by assumption) hb3 | assumption)
      clear hK K hHeld
      have hHeld := hNew
      clear hNew
      try simp only [Act.put, List.setIfInBounds_toArray, List.set_cons_zero, List.set_cons_succ]
      refine wpAnyH_take (i := 30) (oi := { dst := some 80, op := Op.pick (Operand.tmp 78) (Operand.tmp 79) (Operand.const (Value.bool false)), type := 4, pos := "law.go:36", after := #[{ on := 28, ground := Ground.data }, { on := 29, ground := Ground.data }], guard := none }) (v := ?_) rfl (by kernel_rfl) (by kernel_rfl) (by kernel_rfl) (fun _ _ _ h => h) (Or.inl ⟨by rfl, ?_⟩) (by assumption) ?_
      rotate_left
      · (intro wS hSw; (try dsimp only at hSw); go_simp; (try with_reducible rfl))
      try simp only [Act.put, List.setIfInBounds_toArray, List.set_cons_zero, List.set_cons_succ]
      refine wpAnyH_take (i := 31) (oi := { dst := some 6, op := Op.assign (Operand.tmp 80), type := 4, pos := "law.go:36", after := #[{ on := 30, ground := Ground.data }, { on := 29, ground := Ground.chain }, { on := 0, ground := Ground.phase }, { on := 1, ground := Ground.phase }, { on := 2, ground := Ground.phase }, { on := 3, ground := Ground.phase }, { on := 4, ground := Ground.phase }, { on := 5, ground := Ground.phase }, { on := 6, ground := Ground.phase }, { on := 7, ground := Ground.phase }, { on := 8, ground := Ground.phase }, { on := 9, ground := Ground.phase }, { on := 10, ground := Ground.phase }, { on := 11, ground := Ground.phase }, { on := 12, ground := Ground.phase }, { on := 13, ground := Ground.phase }, { on := 14, ground := Ground.phase }, { on := 15, ground := Ground.phase }, { on := 16, ground := Ground.phase }, { on := 17, ground := Ground.phase }, { on := 18, ground := Ground.phase }, { on := 19, ground := Ground.phase }, { on := 20, ground := Ground.phase }, { on := 21, ground := Ground.phase }, { on := 22, ground := Ground.phase }, { on := 23, ground := Ground.phase }, { on := 24, ground := Ground.phase }, { on := 25, ground := Ground.phase }, { on := 26, ground := Ground.phase }, { on := 27, ground := Ground.phase }, { on := 28, ground := Ground.phase }, { on := 29, ground := Ground.phase }, { on := 30, ground := Ground.phase }], guard := none }) (v := ?_) rfl (by kernel_rfl) (by kernel_rfl) (by kernel_rfl) (fun _ _ _ h => h) (Or.inl ⟨by rfl, ?_⟩) (by assumption) ?_
      rotate_left
      · (intro wS hSw; (try dsimp only at hSw); go_simp; (try with_reducible rfl))
      try simp only [Act.put, List.setIfInBounds_toArray, List.set_cons_zero, List.set_cons_succ]
      refine wpAnyH_done (by kernel_rfl) ?_ _
      refine NoPanic.normal ?_
      go_wp2
      all_goals
        go_ret
        exact ⟨rfl, hHeld.1⟩

set_option maxRecDepth 100000 in
set_option maxHeartbeats 4000000 in
theorem crcparts_walk (A : Option Addr) (n c : Nat) (bs : List Nat) (z : Int) (B : Option Addr) (m d : Nat) (cs : List Nat) (w : World) (hs0 : SlA w A n c (bs.map byteV)) (h80 : Bytes8 bs) (_ : i64in z) (hs2 : SlA w B m d (cs.map byteV)) (h82 : Bytes8 cs) :
    Calls Try.prog 4 #[.slice A n c, .int .i64 z, .slice B m d] w fun e w' => e = .returned (.bool true) ∧ Below w.heap.size w w' := by
  obtain ⟨hn, h1, hc, _, hA⟩ := hs0
  obtain rfl : n = bs.length := by simpa using hn
  obtain ⟨hm, h2, hd, _, hB⟩ := hs2
  obtain rfl : m = cs.length := by simpa using hm
  by_cases hl : bs.length ≤ 300
  · by_cases hl2 : cs.length ≤ 300
    · by_cases hle : cs.length < bs.length
      · exact crcparts_b A c bs z B d cs w h1 hc hA h80 h2 hd hB h82 hl hl2 hle
      · exact crcparts_a A c bs z B d cs w h1 hc hA h80 h2 hd hB h82 hl hl2 hle
    · clear hn hm hA hB
      go_enter Try.func4, Try.ntmps4
      go_wp2_with (go_at_call 6; refine (crcAwake_any _).mono ?_; rintro e w3 ⟨rfl, hb3⟩)
      go_ret
      exact ⟨rfl, hb3⟩
  · clear hn hm hA hB
    go_enter Try.func4, Try.ntmps4
    go_wp2_with (go_at_call 6; refine (crcAwake_any _).mono ?_; rintro e w3 ⟨rfl, hb3⟩)
    go_ret
    exact ⟨rfl, hb3⟩

end Go.Proofs.Ytgldagkhepekdaa
