/- tag.Read: what a raw page reads as, by contracts. -/
import Derived.Test.YtjmochkhdapmiaaTagC
import Derived.Test.YtjmochkhdapmiaaApp
import Derived.Test.YtjmochkhdapmiaaLendB
import Derived.Test.YtjmochkhdapmiaaSl2
import Derived.Deep.RegionHeld3
import Derived.Deep.DrawnRows
import Derived.Deep.DeepCutAuto
namespace Go.Proofs.Ytjmochkhdapmiaa
open Go.ChangeShapes Go.WideShapes Go.ChangeAt Go.RowKit
attribute [local go_sem ↓] Go.wp_at_zero Go.wp_at_succ
set_option linter.unusedSimpArgs false
set_option linter.unusedVariables false

theorem sl_sub {w : World} {B b o : Nat} {vs : List Value} (h : Sl w B (some ⟨b, o, none⟩) vs) (i n : Nat) : Sl w B (some ⟨b, o + i, none⟩) ((vs.drop i).take n) := by
  rcases h with h | ⟨b', off, e, hlt, hc⟩
  · exact Or.inl (by rw [h]; simp)
  · cases e
    refine Or.inr ⟨b, o + i, rfl, hlt, fun k v hv => ?_⟩
    rw [List.getElem?_take] at hv
    split at hv
    · rw [List.getElem?_drop] at hv
      have := hc (i + k) v hv
      rwa [← Nat.add_assoc] at this
    · cases hv
theorem held_of {w w' : World} (h : Below w.heap.size w w') : Below w.heap.size w w' ∧ w.heap.size ≤ w'.heap.size ∧ ∀ (k o : Nat), k < w.heap.size → w'.cell? ⟨k, o, none⟩ = w.cell? ⟨k, o, none⟩ := ⟨h, h.size, fun k o hk => h.cell (p := ⟨k, o, none⟩) hk⟩
theorem number_n (bs : List Nat) (n : Nat) (hn : bs.length = n) (A : Option Addr) (c : Nat) (w : World) (h1 : Sl w w.heap.size A (bs.map byteV)) (h8 : Bytes8 bs) (n1 : n ≤ 4) :
    Calls Try.prog 36 #[.slice A n c] w fun e w' => e = .returned (.int .i64 (numB bs)) ∧ w = w' := by
  subst hn
  exact number_any bs A c w h1 h8 n1
theorem rget_n (bs : List Nat) (n : Nat) (hn : bs.length = n) (A : Option Addr) (c : Nat) (w : World) (h1 : Sl w w.heap.size A (bs.map byteV)) (h8 : Bytes8 bs) (n1 : n ≤ 4) :
    Calls Try.prog 33 #[.slice A n c] w fun e w' => e = .returned (.int .i64 (numB bs)) ∧ w = w' := by
  subst hn
  exact rget_any bs A c w h1 h8 n1
def part (tl : List Nat) (i n : Nat) : List Nat := (tl.drop i).take n
theorem part_len {tl : List Nat} {i n : Nat} (h : i + n ≤ tl.length) : (part tl i n).length = n := by simp [part]; omega
theorem part_8 {tl : List Nat} (h : Bytes8 tl) (i n : Nat) : Bytes8 (part tl i n) := fun b hb => h b (List.mem_of_mem_drop (List.mem_of_mem_take hb))
theorem part_map (tl : List Nat) (i n : Nat) : (part tl i n).map byteV = ((tl.map byteV).drop i).take n := by simp [part, List.map_take, List.map_drop]
/-- The numbers of a tag that stands in sixteen bytes. -/
def tK (tl : List Nat) : Nat := tl.getD 1 0
def tP (tl : List Nat) : Nat := numB (part tl 2 2)
def tS (tl : List Nat) : Nat := numB (part tl 4 4)
def tE (tl : List Nat) : Nat := numB (part tl 8 3)

set_option maxRecDepth 100000 in
set_option maxHeartbeats 4000000 in
theorem parse_any (tl : List Nat) (b o c : Nat) (w : World) (h1 : Sl w w.heap.size (some ⟨b, o, none⟩) (tl.map byteV)) (h8 : Bytes8 tl) (hl : tl.length = 16) (hc : 16 ≤ c) (hc2 : c ≤ maxLen) :
    Calls Try.prog 30 #[.slice (some ⟨b, o, none⟩) 16 c] w fun e' w' => e' = .returned (.agg #[.int .i64 (tK tl), .int .i64 (tP tl), .int .i64 (tS tl), .int .i64 (tE tl)]) ∧ Below w.heap.size w w' := by
  unfold maxLen at hc2
  obtain ⟨b', o', hA, lb, q⟩ := h1.at_ (by simp; omega)
  cases hA
  have c1 : w.cell? ⟨b, o + 1, none⟩ = some (.int .u8 (tK tl : Nat)) := q 1 _ (by simp [tK, byteV, show 1 < tl.length by omega])
  have hk8 : (tK tl) < 256 := Bytes8.at_ h8 1
  have k1 : ((tK tl : Nat) : Int) < 256 := by omega
  have k0 : (0 : Int) ≤ ((tK tl : Nat) : Int) := by omega
  have P1 : Sl w w.heap.size (some ⟨b, o + 2, none⟩) ((part tl 2 2).map byteV) := by rw [part_map]; exact sl_sub h1 2 2
  have P2 : Sl w w.heap.size (some ⟨b, o + 4, none⟩) ((part tl 4 4).map byteV) := by rw [part_map]; exact sl_sub h1 4 4
  have P3 : Sl w w.heap.size (some ⟨b, o + 8, none⟩) ((part tl 8 3).map byteV) := by rw [part_map]; exact sl_sub h1 8 3
  have L1 : Hid ((part tl 2 2).length = 2) := Lib.hid (part_len (by omega))
  have L2 : Hid ((part tl 4 4).length = 4) := Lib.hid (part_len (by omega))
  have L3 : Hid ((part tl 8 3).length = 3) := Lib.hid (part_len (by omega))
  have hcc : (16 : Int) ≤ (c : Int) := by omega
  have q4 : (4 : Int) ≤ (c : Int) := by omega
  have q8 : (8 : Int) ≤ (c : Int) := by omega
  have q11 : (11 : Int) ≤ (c : Int) := by omega
  have n2 : ¬ c = 2 := by omega
  have n4 : ¬ c = 4 := by omega
  have n8 : ¬ c = 8 := by omega
  have ww : IntKind.i64.wrap ((tK tl : Nat) : Int) = ((tK tl : Nat) : Int) := IntWalk.i64_in _ (by omega)
  have hw : ∀ (B : Nat) (wx : World), wx = w → True := fun _ _ _ => trivial
  clear hl q hw
  go_enter Try.func30, Try.ntmps30
  go_wp2_with fail
  refine wp_region_noPanic ?_
  refine wp_region_held_drew (S := (fun w' => Below w.heap.size w w' ∧ w.heap.size ≤ w'.heap.size ∧ ∀ (k o : Nat), k < w.heap.size → w'.cell? ⟨k, o, none⟩ = w.cell? ⟨k, o, none⟩)) (by kernel_rfl) ?_ (fun hHeld => ?_)
  · (first | assumption | exact held_of (((Below.refl w.heap.size w).alloc (Nat.le_refl _) _).drew) | exact held_of ((Below.refl w.heap.size w).alloc (Nat.le_refl _) _))
  refine wpAnyH_take (i := 0) (oi := { dst := some 3, op := Op.move (Operand.tmp 0), type := 22, pos := "tag.go:81", after := #[], guard := none }) (v := ?_) rfl (by kernel_rfl) (by kernel_rfl) (by kernel_rfl) (fun _ _ _ h => h) (Or.inl ⟨by rfl, ?_⟩) (by assumption) ?_
  rotate_left
  · (intro wS hSw; (try dsimp only at hSw); go_simp; (try with_reducible rfl))
  try simp only [Act.put, List.setIfInBounds_toArray, List.set_cons_zero, List.set_cons_succ]
  refine wpAnyH_take (i := 1) (oi := { dst := some 4, op := Op.indexAddr 22 (Operand.tmp 3) (Operand.const (Value.int IntKind.i64 1)), type := 0, pos := "tag.go:81", after := #[{ on := 0, ground := Ground.data }], guard := none }) (v := ?_) rfl (by kernel_rfl) (by kernel_rfl) (by kernel_rfl) (fun _ _ _ h => h) (Or.inl ⟨by rfl, ?_⟩) (by assumption) ?_
  rotate_left
  · (intro wS hSw; (try dsimp only at hSw); go_simp; (try with_reducible rfl))
  try simp only [Act.put, List.setIfInBounds_toArray, List.set_cons_zero, List.set_cons_succ]
  refine wpAnyH_take (i := 2) (oi := { dst := some 5, op := Op.load 5 (Operand.tmp 4), type := 5, pos := "tag.go:81", after := #[{ on := 1, ground := Ground.data }], guard := none }) (v := ?_) rfl (by kernel_rfl) (by kernel_rfl) (by kernel_rfl) (fun _ _ _ h => h) (Or.inl ⟨by rfl, ?_⟩) (by assumption) ?_
  rotate_left
  · (intro wS hSw; (try dsimp only at hSw); go_simp; (try with_reducible rfl))
  try simp only [Act.put, List.setIfInBounds_toArray, List.set_cons_zero, List.set_cons_succ]
  refine wpAnyH_take (i := 3) (oi := { dst := some 6, op := Op.convert 5 3 (Operand.tmp 5), type := 3, pos := "tag.go:81", after := #[{ on := 2, ground := Ground.data }], guard := none }) (v := ?_) rfl (by kernel_rfl) (by kernel_rfl) (by kernel_rfl) (fun _ _ _ h => h) (Or.inl ⟨by rfl, ?_⟩) (by assumption) ?_
  rotate_left
  · (intro wS hSw; (try dsimp only at hSw); go_simp; (try with_reducible rfl))
  try simp only [Act.put, List.setIfInBounds_toArray, List.set_cons_zero, List.set_cons_succ]
  refine wpAnyH_take (i := 4) (oi := { dst := some 7, op := Op.move (Operand.tmp 0), type := 22, pos := "tag.go:81", after := #[], guard := none }) (v := ?_) rfl (by kernel_rfl) (by kernel_rfl) (by kernel_rfl) (fun _ _ _ h => h) (Or.inl ⟨by rfl, ?_⟩) (by assumption) ?_
  rotate_left
  · (intro wS hSw; (try dsimp only at hSw); go_simp; (try with_reducible rfl))
  try simp only [Act.put, List.setIfInBounds_toArray, List.set_cons_zero, List.set_cons_succ]
  refine wpAnyH_take (i := 5) (oi := { dst := some 8, op := Op.slice 22 (Operand.tmp 7) (some (Operand.const (Value.int IntKind.i64 2))) (some (Operand.const (Value.int IntKind.i64 4))) none, type := 22, pos := "tag.go:81", after := #[{ on := 4, ground := Ground.data }], guard := none }) (v := ?_) rfl (by kernel_rfl) (by kernel_rfl) (by kernel_rfl) (fun _ _ _ h => h) (Or.inl ⟨by rfl, ?_⟩) (by assumption) ?_
  rotate_left
  · (intro wS hSw; (try dsimp only at hSw); go_simp; (try with_reducible rfl))
  try simp only [Act.put, List.setIfInBounds_toArray, List.set_cons_zero, List.set_cons_succ]
  refine wpAnyH_take (i := 7) (oi := { dst := some 10, op := Op.move (Operand.tmp 0), type := 22, pos := "tag.go:81", after := #[], guard := none }) (v := ?_) rfl (by kernel_rfl) (by kernel_rfl) (by kernel_rfl) (fun _ _ _ h => h) (Or.inl ⟨by rfl, ?_⟩) (by assumption) ?_
  rotate_left
  · (intro wS hSw; (try dsimp only at hSw); go_simp; (try with_reducible rfl))
  try simp only [Act.put, List.setIfInBounds_toArray, List.set_cons_zero, List.set_cons_succ]
  refine wpAnyH_take (i := 8) (oi := { dst := some 11, op := Op.slice 22 (Operand.tmp 10) (some (Operand.const (Value.int IntKind.i64 4))) (some (Operand.const (Value.int IntKind.i64 8))) none, type := 22, pos := "tag.go:81", after := #[{ on := 7, ground := Ground.data }], guard := none }) (v := ?_) rfl (by kernel_rfl) (by kernel_rfl) (by kernel_rfl) (fun _ _ _ h => h) (Or.inl ⟨by rfl, ?_⟩) (by assumption) ?_
  rotate_left
  · (intro wS hSw; (try dsimp only at hSw); go_simp; (try with_reducible rfl))
  try simp only [Act.put, List.setIfInBounds_toArray, List.set_cons_zero, List.set_cons_succ]
  refine wpAnyH_take (i := 10) (oi := { dst := some 13, op := Op.move (Operand.tmp 0), type := 22, pos := "tag.go:81", after := #[], guard := none }) (v := ?_) rfl (by kernel_rfl) (by kernel_rfl) (by kernel_rfl) (fun _ _ _ h => h) (Or.inl ⟨by rfl, ?_⟩) (by assumption) ?_
  rotate_left
  · (intro wS hSw; (try dsimp only at hSw); go_simp; (try with_reducible rfl))
  try simp only [Act.put, List.setIfInBounds_toArray, List.set_cons_zero, List.set_cons_succ]
  refine wpAnyH_take (i := 11) (oi := { dst := some 14, op := Op.slice 22 (Operand.tmp 13) (some (Operand.const (Value.int IntKind.i64 8))) (some (Operand.const (Value.int IntKind.i64 11))) none, type := 22, pos := "tag.go:81", after := #[{ on := 10, ground := Ground.data }], guard := none }) (v := ?_) rfl (by kernel_rfl) (by kernel_rfl) (by kernel_rfl) (fun _ _ _ h => h) (Or.inl ⟨by rfl, ?_⟩) (by assumption) ?_
  rotate_left
  · (intro wS hSw; (try dsimp only at hSw); go_simp; (try with_reducible rfl))
  try simp only [Act.put, List.setIfInBounds_toArray, List.set_cons_zero, List.set_cons_succ]
  refine wpAnyH_ready (rs := [6]) (by kernel_rfl) (by simp) ?_
  refine AllReadyH.cons (o := { dst := some 9, op := Op.call { callee := Callee.value (Operand.func 36), args := #[Operand.tmp 8], argTypes := #[22] }, type := 3, pos := "tag.go:83", after := #[{ on := 5, ground := Ground.data }], guard := none }) rfl (fun K hK => ?_) AllReadyH.nil
  go_simp
  (first
      | (go_at_call 36; ((with_reducible refine (number_n (part tl 2 2) 2 L1.out (some ⟨b, o + 2, none⟩) _ _ (P1.held hHeld.2.1 hHeld.2.2) (part_8 h8 _ _) (by omega)).mono ?_); rintro e' w3 ⟨rfl, rfl⟩))
      | (go_at_call 36; ((with_reducible refine (number_n (part tl 4 4) 4 L2.out (some ⟨b, o + 4, none⟩) _ _ (P2.held hHeld.2.1 hHeld.2.2) (part_8 h8 _ _) (by omega)).mono ?_); rintro e' w3 ⟨rfl, rfl⟩))
      | (go_at_call 36; ((with_reducible refine (number_n (part tl 8 3) 3 L3.out (some ⟨b, o + 8, none⟩) _ _ (P3.held hHeld.2.1 hHeld.2.2) (part_8 h8 _ _) (by omega)).mono ?_); rintro e' w3 ⟨rfl, rfl⟩)))
  go_wp2_with fail
  refine hK.out _ _ ?_ (fun hNew => ?_)
  · (first | assumption | exact held_of (((Below.refl w.heap.size w).alloc (Nat.le_refl _) _).drew) | exact held_of ((Below.refl w.heap.size w).alloc (Nat.le_refl _) _))
  clear hK K hHeld
  have hHeld := hNew
  clear hNew
  try simp only [Act.put, List.setIfInBounds_toArray, List.set_cons_zero, List.set_cons_succ]
  refine wpAnyH_ready (rs := [9]) (by kernel_rfl) (by simp) ?_
  refine AllReadyH.cons (o := { dst := some 12, op := Op.call { callee := Callee.value (Operand.func 36), args := #[Operand.tmp 11], argTypes := #[22] }, type := 3, pos := "tag.go:84", after := #[{ on := 8, ground := Ground.data }, { on := 6, ground := Ground.chain }], guard := none }) rfl (fun K hK => ?_) AllReadyH.nil
  go_simp
  (first
      | (go_at_call 36; ((with_reducible refine (number_n (part tl 2 2) 2 L1.out (some ⟨b, o + 2, none⟩) _ _ (P1.held hHeld.2.1 hHeld.2.2) (part_8 h8 _ _) (by omega)).mono ?_); rintro e' w3 ⟨rfl, rfl⟩))
      | (go_at_call 36; ((with_reducible refine (number_n (part tl 4 4) 4 L2.out (some ⟨b, o + 4, none⟩) _ _ (P2.held hHeld.2.1 hHeld.2.2) (part_8 h8 _ _) (by omega)).mono ?_); rintro e' w3 ⟨rfl, rfl⟩))
      | (go_at_call 36; ((with_reducible refine (number_n (part tl 8 3) 3 L3.out (some ⟨b, o + 8, none⟩) _ _ (P3.held hHeld.2.1 hHeld.2.2) (part_8 h8 _ _) (by omega)).mono ?_); rintro e' w3 ⟨rfl, rfl⟩)))
  go_wp2_with fail
  refine hK.out _ _ ?_ (fun hNew => ?_)
  · (first | assumption | exact held_of (((Below.refl w.heap.size w).alloc (Nat.le_refl _) _).drew) | exact held_of ((Below.refl w.heap.size w).alloc (Nat.le_refl _) _))
  clear hK K hHeld
  have hHeld := hNew
  clear hNew
  try simp only [Act.put, List.setIfInBounds_toArray, List.set_cons_zero, List.set_cons_succ]
  refine wpAnyH_ready (rs := [12]) (by kernel_rfl) (by simp) ?_
  refine AllReadyH.cons (o := { dst := some 15, op := Op.call { callee := Callee.value (Operand.func 36), args := #[Operand.tmp 14], argTypes := #[22] }, type := 3, pos := "tag.go:85", after := #[{ on := 11, ground := Ground.data }, { on := 9, ground := Ground.chain }], guard := none }) rfl (fun K hK => ?_) AllReadyH.nil
  go_simp
  (first
      | (go_at_call 36; ((with_reducible refine (number_n (part tl 2 2) 2 L1.out (some ⟨b, o + 2, none⟩) _ _ (P1.held hHeld.2.1 hHeld.2.2) (part_8 h8 _ _) (by omega)).mono ?_); rintro e' w3 ⟨rfl, rfl⟩))
      | (go_at_call 36; ((with_reducible refine (number_n (part tl 4 4) 4 L2.out (some ⟨b, o + 4, none⟩) _ _ (P2.held hHeld.2.1 hHeld.2.2) (part_8 h8 _ _) (by omega)).mono ?_); rintro e' w3 ⟨rfl, rfl⟩))
      | (go_at_call 36; ((with_reducible refine (number_n (part tl 8 3) 3 L3.out (some ⟨b, o + 8, none⟩) _ _ (P3.held hHeld.2.1 hHeld.2.2) (part_8 h8 _ _) (by omega)).mono ?_); rintro e' w3 ⟨rfl, rfl⟩)))
  go_wp2_with fail
  refine hK.out _ _ ?_ (fun hNew => ?_)
  · (first | assumption | exact held_of (((Below.refl w.heap.size w).alloc (Nat.le_refl _) _).drew) | exact held_of ((Below.refl w.heap.size w).alloc (Nat.le_refl _) _))
  clear hK K hHeld
  have hHeld := hNew
  clear hNew
  try simp only [Act.put, List.setIfInBounds_toArray, List.set_cons_zero, List.set_cons_succ]
  refine wpAnyH_take (i := 13) (oi := { dst := some 16, op := Op.build 24 #[(0, Operand.tmp 6), (1, Operand.tmp 9), (2, Operand.tmp 12), (3, Operand.tmp 15)], type := 24, pos := "tag.go:81", after := #[{ on := 3, ground := Ground.data }, { on := 6, ground := Ground.data }, { on := 9, ground := Ground.data }, { on := 12, ground := Ground.data }], guard := none }) (v := ?_) rfl (by kernel_rfl) (by kernel_rfl) (by kernel_rfl) (fun _ _ _ h => h) (Or.inl ⟨by rfl, ?_⟩) (by assumption) ?_
  rotate_left
  · (intro wS hSw; (try dsimp only at hSw); go_simp; (try with_reducible rfl))
  try simp only [Act.put, List.setIfInBounds_toArray, List.set_cons_zero, List.set_cons_succ]
  refine wpAnyH_ready (rs := [14]) (by kernel_rfl) (by simp) ?_
  refine AllReadyH.cons (o := { dst := none, op := Op.store 24 (Operand.tmp 2) (Operand.tmp 16), type := 0, pos := "tag.go:81", after := #[{ on := 13, ground := Ground.data }, { on := 12, ground := Ground.chain }, { on := 0, ground := Ground.phase }, { on := 1, ground := Ground.phase }, { on := 2, ground := Ground.phase }, { on := 3, ground := Ground.phase }, { on := 4, ground := Ground.phase }, { on := 5, ground := Ground.phase }, { on := 6, ground := Ground.phase }, { on := 7, ground := Ground.phase }, { on := 8, ground := Ground.phase }, { on := 9, ground := Ground.phase }, { on := 10, ground := Ground.phase }, { on := 11, ground := Ground.phase }, { on := 12, ground := Ground.phase }, { on := 13, ground := Ground.phase }], guard := none }) rfl (fun K hK => ?_) AllReadyH.nil
  go_simp
  refine hK.out _ _ ?_ (fun hNew => ?_)
  · (first | assumption | exact held_of (((Below.refl w.heap.size w).alloc (Nat.le_refl _) _).drew) | exact held_of ((Below.refl w.heap.size w).alloc (Nat.le_refl _) _))
  clear hK K hHeld
  have hHeld := hNew
  clear hNew
  try simp only [Act.put, List.setIfInBounds_toArray, List.set_cons_zero, List.set_cons_succ]
  refine wpAnyH_done (by kernel_rfl) ?_ _
  refine NoPanic.normal ?_
  go_wp2
  exact bodyPost_ret (v := .agg #[.int .i64 (tK tl), .int .i64 (tP tl), .int .i64 (tS tl), .int .i64 (tE tl)]) (by simp [results, Try.results30, go_sem, tP, tS, tE]) rfl ⟨rfl, ((Below.refl _ _).alloc (Nat.le_refl _) _).drew⟩

/-- Are the mark, the sum and the last byte as they must be? n: how many bytes of data there are. -/
def soundB (bs : List Nat) (n : Nat) : Bool := (bs.getD n 0 == 74) && ((bs.getD (n + 15) 0 == 0) && (numB (part bs (n + 11) 4) == crcMore 0 (bs.take (n + 11))))
theorem eqNat (a b : Nat) : ((a : Int) == (b : Int)) = (a == b) := by
  rw [Bool.eq_iff_iff]
  simp only [beq_iff_eq]
  omega

set_option maxRecDepth 100000 in
set_option maxHeartbeats 4000000 in
theorem sound_any (bs : List Nat) (n b o c : Nat) (w : World) (h1 : Sl w w.heap.size (some ⟨b, o, none⟩) (bs.map byteV)) (h8 : Bytes8 bs) (hl : bs.length = n + 16) (hn : n ≤ 1000) (hc : n + 16 ≤ c) (hc2 : c ≤ maxLen) :
    Calls Try.prog 31 #[.slice (some ⟨b, o, none⟩) (n + 16) c, .int .i64 n] w fun e' w' => e' = .returned (.bool (soundB bs n)) ∧ w = w' := by
  unfold maxLen at hc2
  obtain ⟨b', o', hA, lb, q⟩ := h1.at_ (by simp; omega)
  cases hA
  obtain ⟨x0, hx0⟩ : ∃ x, bs.getD n 0 = x := ⟨_, rfl⟩
  obtain ⟨x1, hx1⟩ : ∃ x, bs.getD (n + 15) 0 = x := ⟨_, rfl⟩
  have hb0 : x0 < 256 := by rw [← hx0]; exact Bytes8.at_ h8 n
  have hb1 : x1 < 256 := by rw [← hx1]; exact Bytes8.at_ h8 (n + 15)
  have c0 : w.cell? ⟨b, o + n, none⟩ = some (.int .u8 (x0 : Int)) := q n _ (by rw [← hx0]; simp [byteV, show n < bs.length by omega])
  have c1 : w.cell? ⟨b, o + (n + 15), none⟩ = some (.int .u8 (x1 : Int)) := q (n + 15) _ (by rw [← hx1]; simp [byteV, show n + 15 < bs.length by omega])
  have P1 : Sl w w.heap.size (some ⟨b, o + (n + 11), none⟩) ((part bs (n + 11) 4).map byteV) := by rw [part_map]; exact sl_sub h1 (n + 11) 4
  have P2 : Sl w w.heap.size (some ⟨b, o, none⟩) ((bs.take (n + 11)).map byteV) := by have := sl_sub h1 0 (n + 11); simpa [List.map_take] using this
  have L1 : Hid ((part bs (n + 11) 4).length = 4) := Lib.hid (part_len (by omega))
  have L2 : Hid ((bs.take (n + 11)).length = n + 11) := Lib.hid (by simp; omega)
  have h8t : Bytes8 (bs.take (n + 11)) := fun b hb => h8 b (List.mem_of_mem_take hb)
  have hsd : soundB bs n = ((x0 == 74) && ((x1 == 0) && (numB (part bs (n + 11) 4) == crcMore 0 (bs.take (n + 11))))) := by unfold soundB; rw [hx0, hx1]
  have hNb : numB (part bs (n + 11) 4) < 4294967296 := (be_num4 (part_len (by omega)) (part_8 h8 _ _)).2
  have hCb : crcMore 0 (bs.take (n + 11)) < 4294967296 := crcMore_lt (by omega)
  obtain ⟨N, hN⟩ : ∃ N, numB (part bs (n + 11) 4) = N := ⟨_, rfl⟩
  obtain ⟨C, hC⟩ : ∃ C, crcMore 0 (bs.take (n + 11)) = C := ⟨_, rfl⟩
  rw [hN] at hNb hsd
  rw [hC] at hCb hsd
  have HN := Lib.hid hN
  have HC := Lib.hid hC
  have HSD := Lib.hid hsd
  have i0 : (0 : Int) ≤ (n : Int) := by omega
  have i1 : (n : Int) ≤ 1000 := by omega
  have q1 : (n : Int) + 16 ≤ (c : Int) := by omega
  have q2 : (n : Int) + 11 + 4 ≤ (c : Int) := by omega
  have q3 : (n : Int) + 11 ≤ (c : Int) := by omega
  have q4 : (n : Int) < (n : Int) + 16 := by omega
  have n1 : ¬ c = n + 11 := by omega
  have b0 : (N : Int) < 4294967296 := by omega
  have b1 : (C : Int) < 4294967296 := by omega
  have b2 : (0 : Int) ≤ (C : Int) := by omega
  clear q hx0 hx1 hl hN hC hsd
  rcases (by cases hq : (x0 == 74 : Bool) <;> simp : (x0 == 74) = true ∨ (x0 == 74) = false) with t1 | t1
  · have u1 : ((x0 : Int) == 74) = true := (eqNat x0 74).trans t1
    rcases (by cases hq : (x1 == 0 : Bool) <;> simp : (x1 == 0) = true ∨ (x1 == 0) = false) with t2 | t2
    · have u2 : ((x1 : Int) == 0) = true := (eqNat x1 0).trans t2
      have hr := HSD.out.trans (by rw [t1, t2, Bool.true_and, Bool.true_and] : _ = (N == C))
      have hr2 := hr.trans (eqNat N C).symm
      have HR := Lib.hid hr2
      clear hr hr2 t1 t2
      go_enter Try.func31, Try.ntmps31
      go_wp2_with (first
        | (go_at_call 36; refine (number_n (part bs (n + 11) 4) 4 L1.out _ _ _ P1 (part_8 h8 _ _) (by omega)).mono ?_; rw [HN.out]; rintro e' w3 ⟨rfl, rfl⟩)
        | (go_at_call 25; refine (crcOf_len (bs.take (n + 11)) (n + 11) L2.out _ _ _ P2 h8t (by have := L2.out; omega)).mono ?_; rw [HC.out]; rintro e' w3 ⟨rfl, rfl⟩))
      go_ret
      exact ⟨ret_bool HR.out.symm, rfl⟩
    · have u2 : ((x1 : Int) == 0) = false := (eqNat x1 0).trans t2
      have hr := HSD.out.trans (by rw [t1, t2]; rfl : _ = false)
      have HR := Lib.hid hr
      clear hr t1 t2
      go_enter Try.func31, Try.ntmps31
      go_wp2_with (first
        | (go_at_call 36; refine (number_n (part bs (n + 11) 4) 4 L1.out _ _ _ P1 (part_8 h8 _ _) (by omega)).mono ?_; rw [HN.out]; rintro e' w3 ⟨rfl, rfl⟩)
        | (go_at_call 25; refine (crcOf_len (bs.take (n + 11)) (n + 11) L2.out _ _ _ P2 h8t (by have := L2.out; omega)).mono ?_; rw [HC.out]; rintro e' w3 ⟨rfl, rfl⟩))
      go_ret
      exact ⟨ret_bool HR.out.symm, rfl⟩
  · have u1 : ((x0 : Int) == 74) = false := (eqNat x0 74).trans t1
    have hr := HSD.out.trans (by rw [t1]; rfl : _ = false)
    have HR := Lib.hid hr
    clear hr t1
    go_enter Try.func31, Try.ntmps31
    go_wp2_with (first
        | (go_at_call 36; refine (number_n (part bs (n + 11) 4) 4 L1.out _ _ _ P1 (part_8 h8 _ _) (by omega)).mono ?_; rw [HN.out]; rintro e' w3 ⟨rfl, rfl⟩)
        | (go_at_call 25; refine (crcOf_len (bs.take (n + 11)) (n + 11) L2.out _ _ _ P2 h8t (by have := L2.out; omega)).mono ?_; rw [HC.out]; rintro e' w3 ⟨rfl, rfl⟩))
    go_ret
    exact ⟨ret_bool HR.out.symm, rfl⟩

set_option maxRecDepth 100000 in
set_option maxHeartbeats 4000000 in
theorem clone_any (bs : List Nat) (n b o c : Nat) (w : World) (h1 : Sl w w.heap.size (some ⟨b, o, none⟩) (bs.map byteV)) (hl : bs.length = n) (hn : n ≤ 1000) :
    Calls Try.prog 32 #[.slice (some ⟨b, o, none⟩) n c] w fun e' w' => ∃ sv, e' = .returned sv ∧ w'.ownsRow w.heap.size 5 1 sv n (bs.map byteV) ∧ Below w.heap.size w w' := by
  obtain ⟨i0, hi, hz0, hz1, hz2⟩ := info_parts infoByte
  have HL := Lib.hid hl
  clear hl
  have hnil := fun (w : World) => Lib.run_eql_slice_nil (P := Try.prog) w 22 5 (some ⟨b, o, none⟩) n c 0 0 Try.underlying22
  go_enter Try.func32, Try.ntmps32
  go_wp2_with (at_builtin; refine wpList_app _ rfl (.tmp 5) (.tmp 6) _ rfl w.heap.size 5 i0 _ 1 1 Try.underlying22 hi hz0 hz1 hz2 rfl (by decide) _ 0 [] rfl (World.ownsRow_lit w #[] 0 (Nat.le_refl _) (by unfold maxLen; omega) rfl) _ n _ (bs.map byteV) rfl (Rd.of_sl (h1.next ((Below.refl _ _).alloc (Nat.le_refl _) _)) (by simp; exact HL.out)) (oneB bs) (by unfold maxLen; omega) (by omega) (by simp) ?_; intro s2 w2 ho2 hg2 hv2)
  go_ret
  refine ⟨_, rfl, own_len (n := 0 + n) (by omega) (by simpa using ho2), ((Below.refl _ _).alloc (Nat.le_refl _) _).trans (below_app (Nat.le_refl _) (by simp) (World.ownsRow_lit (e := 5) (size := 1) w #[] 0 (Nat.le_refl _) (by unfold maxLen; omega) rfl) hg2)⟩
end Go.Proofs.Ytjmochkhdapmiaa
