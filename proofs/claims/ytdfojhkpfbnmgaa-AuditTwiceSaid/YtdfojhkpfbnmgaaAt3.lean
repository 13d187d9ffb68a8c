/- tag.Lay: what it lays, by contracts. -/
import Derived.Test.YtdfojhkpfbnmgaaAt2
import Derived.Test.YtdfojhkpfbnmgaaAt1
import Derived.Deep.RegionHeld3
import Derived.Deep.DrawnRows
import Derived.Deep.DeepCutAuto
import Derived.Deep.Slices
import Derived.Laws.BytesString
import Derived.Laws.BytesArg
import Derived.Laws.Cells
import Derived.Laws.Strings
import Derived.Maps.AppendAt
import Derived.Deep.Fields
import Derived.ChangeSame
import Derived.Deep.CutBlock
import Derived.StillTailTactics
import Derived.ScopeJumps
import Derived.WalkMore
import Derived.WalkKit
set_option linter.unusedSimpArgs false
set_option linter.unusedVariables false
set_option maxRecDepth 100000
set_option maxHeartbeats 16000000
namespace Go.Proofs.Ytdfojhkpfbnmgaa
open Go.ChangeShapes Go.WideShapes Go.ChangeAt Go.RowKit
attribute [local go_sem ↓] Go.wp_at_zero Go.wp_at_succ
def bodyB (data : List Nat) (k p s e : Nat) : List Nat := (((data ++ [74, k]) ++ beB p 2) ++ beB s 4) ++ beB e 3
def rawB (data : List Nat) (k p s e : Nat) : List Nat := (bodyB data k p s e ++ beB (crcMore 0 (bodyB data k p s e)) 4) ++ [0]
theorem bodyB_len (data : List Nat) (k p s e : Nat) : (bodyB data k p s e).length = data.length + 11 := by simp [bodyB, beB_len]
theorem rawB_len (data : List Nat) (k p s e : Nat) : (rawB data k p s e).length = data.length + 16 := by simp [rawB, bodyB_len, beB_len]
theorem bodyB_8 {data : List Nat} {k p s e : Nat} (hd : Bytes8 data) (hk : k < 256) : Bytes8 (bodyB data k p s e) := by
  intro b hb
  simp only [bodyB, List.mem_append, List.mem_cons, List.not_mem_nil, or_false] at hb
  rcases hb with (((h | h) | h) | h) | h
  · exact hd b h
  · omega
  · exact beB_8 _ _ b h
  · exact beB_8 _ _ b h
  · exact beB_8 _ _ b h
theorem rawB_8 {data : List Nat} {k p s e : Nat} (hd : Bytes8 data) (hk : k < 256) : Bytes8 (rawB data k p s e) := by
  intro b hb
  simp only [rawB, List.mem_append, List.mem_cons, List.not_mem_nil, or_false] at hb
  rcases hb with (h | h) | h
  · exact bodyB_8 hd hk b h
  · exact beB_8 _ _ b h
  · omega
theorem own_slice {w : World} {base : Nat} {e : TypeId} {v : Value} {n : Nat} {bs : List Nat} (h : w.ownsRow base e 1 v n (bs.map byteV)) : ∃ (A : Option Addr) (c : Nat), v = .slice A n c ∧ bs.length = n ∧ n ≤ c ∧ c ≤ maxLen ∧ (A = none → n = 0 ∧ c = 0) ∧ Sl w w.heap.size A (bs.map byteV) := by
  have hl : bs.length = n := by
    have := h.1
    simp at this
    omega
  rcases h.2 with ⟨hv, h0⟩ | ⟨g, cap, cur, hv, hbg, hh, hnc, hm, hsz, ht⟩
  · subst h0
    exact ⟨none, 0, hv, hl, Nat.le_refl _, by unfold maxLen; omega, fun _ => ⟨rfl, rfl⟩, Or.inl (by rw [List.eq_nil_of_length_eq_zero hl]; rfl)⟩
  · subst hv
    exact ⟨some ⟨g, 0, none⟩, cap, rfl, hl, hnc, hm, by simp, Sl.of_own h⟩
theorem own_mono {w : World} {base base' : Nat} {e : TypeId} {size n : Nat} {v : Value} {xs : List Value} (h : w.ownsRow base e size v n xs) (hb : base' ≤ base) : w.ownsRow base' e size v n xs := by
  obtain ⟨hl, h⟩ := h
  rcases h with h | ⟨g, cap, cur, hv, hbg, hr⟩
  · exact ⟨hl, Or.inl h⟩
  · exact ⟨hl, Or.inr ⟨g, cap, cur, hv, by omega, hr⟩⟩
theorem own_len {w : World} {base : Nat} {e : TypeId} {size n m : Nat} {v : Value} {xs : List Value} (h : n = m) (ho : w.ownsRow base e size v n xs) : w.ownsRow base e size v m xs := by rw [← h]; exact ho
theorem crcOf_len (bs : List Nat) (n : Nat) (hn : bs.length = n) (A : Option Addr) (c : Nat) (w : World) (h1 : Sl w w.heap.size A (bs.map byteV)) (h8 : Bytes8 bs) (n1 : bs.length ≤ 1000000000) :
    Calls Try.prog 79 #[.slice A n c] w fun e w' => e = .returned (.int .u32 (crcMore 0 bs)) ∧ w = w' := by
  subst hn
  exact (crcOf_any bs A c w h1 h8 n1).mono fun e w' h => ⟨h.1, h.2.symm⟩
theorem Rd.list {w : World} {g : Nat} {t : TypeId} {vs : List Value} (h : Blk w g t vs.toArray) {m : Nat} (hm : vs.length = m) : Rd w (some ⟨g, 0, none⟩) m 1 vs := by
  refine ⟨by omega, Or.inr ⟨g, 0, rfl, fun j u hj => ?_⟩⟩
  rw [Nat.zero_add, h.cell_ j]
  simpa using hj
theorem rnum_n (v : Nat) (n : Nat) (N : Int) (hN : (n : Int) = N) (base : Nat) (sv : Value) (m : Nat) (xs : List Nat) (w : World) (hv : v < 4294967296) (hn1 : 1 ≤ n) (hn : n ≤ 4) (hown : w.ownsRow base 5 1 sv m (xs.map byteV)) (hbase : base ≤ w.heap.size) (hm : m ≤ 1000) :
    Calls Try.prog 48 #[sv, .int .i64 v, .int .i64 N] w fun e w' =>
      ∃ sv', e = .returned sv' ∧ w'.ownsRow base 5 1 sv' (m + n) ((xs ++ beB v n).map byteV) ∧ Below base w w' ∧ (sv'.ownBlock = sv.ownBlock ∨ ∃ g, sv'.ownBlock = some g ∧ w.heap.size ≤ g) := by
  subst hN
  exact rnum_any v n base sv m xs w hv hn1 hn hown hbase hm
end Go.Proofs.Ytdfojhkpfbnmgaa
namespace Go.Proofs.Ytdfojhkpfbnmgaa
open Go.ChangeShapes Go.WideShapes Go.ChangeAt Go.RowKit
attribute [local go_sem ↓] Go.wp_at_zero Go.wp_at_succ
theorem sl_sub {w : World} {B b o : Nat} {vs : List Value} (h : Sl w B (some ⟨b, o, none⟩) vs) (i n : Nat) : Sl w B (some ⟨b, o + i, none⟩) ((vs.drop i).take n) := by
  rcases h with h | ⟨b', off, e, hlt, hc⟩
  · exact Or.inl (by rw [h]; simp)
  · cases e
    refine Or.inr ⟨b, o + i, rfl, hlt, fun k v hv => ?_⟩
    rw [List.getElem?_take] at hv
    split at hv
    · rw [List.getElem?_drop] at hv
      have := hc (i + k) v hv
      rwa [← Nat.add_assoc] at this
    · cases hv
theorem held_of {w w' : World} (h : Below w.heap.size w w') : Below w.heap.size w w' ∧ w.heap.size ≤ w'.heap.size ∧ ∀ (k o : Nat), k < w.heap.size → w'.cell? ⟨k, o, none⟩ = w.cell? ⟨k, o, none⟩ := ⟨h, h.size, fun k o hk => h.cell (p := ⟨k, o, none⟩) hk⟩
theorem number_n (bs : List Nat) (n : Nat) (hn : bs.length = n) (A : Option Addr) (c : Nat) (w : World) (h1 : Sl w w.heap.size A (bs.map byteV)) (h8 : Bytes8 bs) (n1 : n ≤ 4) :
    Calls Try.prog 77 #[.slice A n c] w fun e w' => e = .returned (.int .i64 (numB bs)) ∧ w = w' := by
  subst hn
  exact number_any bs A c w h1 h8 n1
def part (tl : List Nat) (i n : Nat) : List Nat := (tl.drop i).take n
theorem part_len {tl : List Nat} {i n : Nat} (h : i + n ≤ tl.length) : (part tl i n).length = n := by simp [part]; omega
theorem part_8 {tl : List Nat} (h : Bytes8 tl) (i n : Nat) : Bytes8 (part tl i n) := fun b hb => h b (List.mem_of_mem_drop (List.mem_of_mem_take hb))
theorem part_map (tl : List Nat) (i n : Nat) : (part tl i n).map byteV = ((tl.map byteV).drop i).take n := by simp [part, List.map_take, List.map_drop]
def tK (tl : List Nat) : Nat := tl.getD 1 0
def tP (tl : List Nat) : Nat := numB (part tl 2 2)
def tS (tl : List Nat) : Nat := numB (part tl 4 4)
def tE (tl : List Nat) : Nat := numB (part tl 8 3)
theorem parse_any (tl : List Nat) (b o c : Nat) (w : World) (h1 : Sl w w.heap.size (some ⟨b, o, none⟩) (tl.map byteV)) (h8 : Bytes8 tl) (hl : tl.length = 16) (hc : 16 ≤ c) (hc2 : c ≤ maxLen) :
    Calls Try.prog 74 #[.slice (some ⟨b, o, none⟩) 16 c] w fun e' w' => e' = .returned (.agg #[.int .i64 (tK tl), .int .i64 (tP tl), .int .i64 (tS tl), .int .i64 (tE tl)]) ∧ Below w.heap.size w w' := by
  unfold maxLen at hc2
  obtain ⟨b', o', hA, lb, q⟩ := h1.at_ (by simp; omega)
  cases hA
  have c1 : w.cell? ⟨b, o + 1, none⟩ = some (.int .u8 (tK tl : Nat)) := q 1 _ (by simp [tK, byteV, show 1 < tl.length by omega])
  have hk8 : (tK tl) < 256 := Bytes8.at_ h8 1
  have k1 : ((tK tl : Nat) : Int) < 256 := by omega
  have k0 : (0 : Int) ≤ ((tK tl : Nat) : Int) := by omega
  have P1 : Sl w w.heap.size (some ⟨b, o + 2, none⟩) ((part tl 2 2).map byteV) := by rw [part_map]; exact sl_sub h1 2 2
  have P2 : Sl w w.heap.size (some ⟨b, o + 4, none⟩) ((part tl 4 4).map byteV) := by rw [part_map]; exact sl_sub h1 4 4
  have P3 : Sl w w.heap.size (some ⟨b, o + 8, none⟩) ((part tl 8 3).map byteV) := by rw [part_map]; exact sl_sub h1 8 3
  have L1 : Hid ((part tl 2 2).length = 2) := Lib.hid (part_len (by omega))
  have L2 : Hid ((part tl 4 4).length = 4) := Lib.hid (part_len (by omega))
  have L3 : Hid ((part tl 8 3).length = 3) := Lib.hid (part_len (by omega))
  have hcc : (16 : Int) ≤ (c : Int) := by omega
  have q4 : (4 : Int) ≤ (c : Int) := by omega
  have q8 : (8 : Int) ≤ (c : Int) := by omega
  have q11 : (11 : Int) ≤ (c : Int) := by omega
  have n2 : ¬ c = 2 := by omega
  have n4 : ¬ c = 4 := by omega
  have n8 : ¬ c = 8 := by omega
  have ww : IntKind.i64.wrap ((tK tl : Nat) : Int) = ((tK tl : Nat) : Int) := IntWalk.i64_in _ (by omega)
  have hw : ∀ (B : Nat) (wx : World), wx = w → True := fun _ _ _ => trivial
  clear hl q hw
  go_enter Try.func74, Try.ntmps74
  go_wp2_with fail
  refine wp_region_noPanic ?_
  refine wp_region_held_drew (S := (fun w' => Below w.heap.size w w' ∧ w.heap.size ≤ w'.heap.size ∧ ∀ (k o : Nat), k < w.heap.size → w'.cell? ⟨k, o, none⟩ = w.cell? ⟨k, o, none⟩)) (by kernel_rfl) ?_ (fun hHeld => ?_)
  · (first | assumption | exact held_of (((Below.refl w.heap.size w).alloc (Nat.le_refl _) _).drew) | exact held_of ((Below.refl w.heap.size w).alloc (Nat.le_refl _) _))
  refine tk 0 ⟨some 3, .move (.tmp 0), 46, "tag.go:81", #[], none⟩ ?_; try simp only [Act.put, pz1, pz2, pz3]
  refine tk 1 ⟨some 4, .indexAddr 46 (.tmp 3) (.const (.int .i64 1)), 0, "tag.go:81", #[⟨0, .data⟩], none⟩ ?_; try simp only [Act.put, pz1, pz2, pz3]
  refine tk 2 ⟨some 5, .load 5 (.tmp 4), 5, "tag.go:81", #[⟨1, .data⟩], none⟩ ?_; try simp only [Act.put, pz1, pz2, pz3]
  refine tk 3 ⟨some 6, .convert 5 3 (.tmp 5), 3, "tag.go:81", #[⟨2, .data⟩], none⟩ ?_; try simp only [Act.put, pz1, pz2, pz3]
  refine tk 4 ⟨some 7, .move (.tmp 0), 46, "tag.go:81", #[], none⟩ ?_; try simp only [Act.put, pz1, pz2, pz3]
  refine tk 5 ⟨some 8, .slice 46 (.tmp 7) (some (.const (.int .i64 2))) (some (.const (.int .i64 4))) none, 46, "tag.go:81", #[⟨4, .data⟩], none⟩ ?_; try simp only [Act.put, pz1, pz2, pz3]
  refine tk 7 ⟨some 10, .move (.tmp 0), 46, "tag.go:81", #[], none⟩ ?_; try simp only [Act.put, pz1, pz2, pz3]
  refine tk 8 ⟨some 11, .slice 46 (.tmp 10) (some (.const (.int .i64 4))) (some (.const (.int .i64 8))) none, 46, "tag.go:81", #[⟨7, .data⟩], none⟩ ?_; try simp only [Act.put, pz1, pz2, pz3]
  refine tk 10 ⟨some 13, .move (.tmp 0), 46, "tag.go:81", #[], none⟩ ?_; try simp only [Act.put, pz1, pz2, pz3]
  refine tk 11 ⟨some 14, .slice 46 (.tmp 13) (some (.const (.int .i64 8))) (some (.const (.int .i64 11))) none, 46, "tag.go:81", #[⟨10, .data⟩], none⟩ ?_; try simp only [Act.put, pz1, pz2, pz3]
  refine wpAnyH_ready (rs := [6]) (by kernel_rfl) (by simp) ?_
  refine AllReadyH.cons (o := ⟨some 9, .call { callee := .value (.func 77), args := #[.tmp 8], argTypes := #[46] }, 3, "tag.go:83", #[⟨5, .data⟩], none⟩) rfl (fun K hK => ?_) AllReadyH.nil
  go_simp
  (first
      | (go_at_call 77; ((with_reducible refine (number_n (part tl 2 2) 2 L1.out (some ⟨b, o + 2, none⟩) _ _ (P1.held hHeld.2.1 hHeld.2.2) (part_8 h8 _ _) (by omega)).mono ?_); rintro e' w3 ⟨rfl, rfl⟩))
      | (go_at_call 77; ((with_reducible refine (number_n (part tl 4 4) 4 L2.out (some ⟨b, o + 4, none⟩) _ _ (P2.held hHeld.2.1 hHeld.2.2) (part_8 h8 _ _) (by omega)).mono ?_); rintro e' w3 ⟨rfl, rfl⟩))
      | (go_at_call 77; ((with_reducible refine (number_n (part tl 8 3) 3 L3.out (some ⟨b, o + 8, none⟩) _ _ (P3.held hHeld.2.1 hHeld.2.2) (part_8 h8 _ _) (by omega)).mono ?_); rintro e' w3 ⟨rfl, rfl⟩)))
  go_wp2_with fail
  refine hK.out _ _ ?_ (fun hNew => ?_)
  · (first | assumption | exact held_of (((Below.refl w.heap.size w).alloc (Nat.le_refl _) _).drew) | exact held_of ((Below.refl w.heap.size w).alloc (Nat.le_refl _) _))
  clear hK K hHeld
  have hHeld := hNew
  clear hNew
  try simp only [Act.put, pz1, pz2, pz3]
  refine wpAnyH_ready (rs := [9]) (by kernel_rfl) (by simp) ?_
  refine AllReadyH.cons (o := ⟨some 12, .call { callee := .value (.func 77), args := #[.tmp 11], argTypes := #[46] }, 3, "tag.go:84", #[⟨8, .data⟩, ⟨6, .chain⟩], none⟩) rfl (fun K hK => ?_) AllReadyH.nil
  go_simp
  (first
      | (go_at_call 77; ((with_reducible refine (number_n (part tl 2 2) 2 L1.out (some ⟨b, o + 2, none⟩) _ _ (P1.held hHeld.2.1 hHeld.2.2) (part_8 h8 _ _) (by omega)).mono ?_); rintro e' w3 ⟨rfl, rfl⟩))
      | (go_at_call 77; ((with_reducible refine (number_n (part tl 4 4) 4 L2.out (some ⟨b, o + 4, none⟩) _ _ (P2.held hHeld.2.1 hHeld.2.2) (part_8 h8 _ _) (by omega)).mono ?_); rintro e' w3 ⟨rfl, rfl⟩))
      | (go_at_call 77; ((with_reducible refine (number_n (part tl 8 3) 3 L3.out (some ⟨b, o + 8, none⟩) _ _ (P3.held hHeld.2.1 hHeld.2.2) (part_8 h8 _ _) (by omega)).mono ?_); rintro e' w3 ⟨rfl, rfl⟩)))
  go_wp2_with fail
  refine hK.out _ _ ?_ (fun hNew => ?_)
  · (first | assumption | exact held_of (((Below.refl w.heap.size w).alloc (Nat.le_refl _) _).drew) | exact held_of ((Below.refl w.heap.size w).alloc (Nat.le_refl _) _))
  clear hK K hHeld
  have hHeld := hNew
  clear hNew
  try simp only [Act.put, pz1, pz2, pz3]
  refine wpAnyH_ready (rs := [12]) (by kernel_rfl) (by simp) ?_
  refine AllReadyH.cons (o := ⟨some 15, .call { callee := .value (.func 77), args := #[.tmp 14], argTypes := #[46] }, 3, "tag.go:85", #[⟨11, .data⟩, ⟨9, .chain⟩], none⟩) rfl (fun K hK => ?_) AllReadyH.nil
  go_simp
  (first
      | (go_at_call 77; ((with_reducible refine (number_n (part tl 2 2) 2 L1.out (some ⟨b, o + 2, none⟩) _ _ (P1.held hHeld.2.1 hHeld.2.2) (part_8 h8 _ _) (by omega)).mono ?_); rintro e' w3 ⟨rfl, rfl⟩))
      | (go_at_call 77; ((with_reducible refine (number_n (part tl 4 4) 4 L2.out (some ⟨b, o + 4, none⟩) _ _ (P2.held hHeld.2.1 hHeld.2.2) (part_8 h8 _ _) (by omega)).mono ?_); rintro e' w3 ⟨rfl, rfl⟩))
      | (go_at_call 77; ((with_reducible refine (number_n (part tl 8 3) 3 L3.out (some ⟨b, o + 8, none⟩) _ _ (P3.held hHeld.2.1 hHeld.2.2) (part_8 h8 _ _) (by omega)).mono ?_); rintro e' w3 ⟨rfl, rfl⟩)))
  go_wp2_with fail
  refine hK.out _ _ ?_ (fun hNew => ?_)
  · (first | assumption | exact held_of (((Below.refl w.heap.size w).alloc (Nat.le_refl _) _).drew) | exact held_of ((Below.refl w.heap.size w).alloc (Nat.le_refl _) _))
  clear hK K hHeld
  have hHeld := hNew
  clear hNew
  try simp only [Act.put, pz1, pz2, pz3]
  refine tk 13 ⟨some 16, .build 50 #[(0, .tmp 6), (1, .tmp 9), (2, .tmp 12), (3, .tmp 15)], 50, "tag.go:81", #[⟨3, .data⟩, ⟨6, .data⟩, ⟨9, .data⟩, ⟨12, .data⟩], none⟩ ?_; try simp only [Act.put, pz1, pz2, pz3]
  refine wpAnyH_ready (rs := [14]) (by kernel_rfl) (by simp) ?_
  refine AllReadyH.cons (o := ⟨none, .store 50 (.tmp 2) (.tmp 16), 0, "tag.go:81", #[⟨13, .data⟩, ⟨12, .chain⟩, ⟨0, .phase⟩, ⟨1, .phase⟩, ⟨2, .phase⟩, ⟨3, .phase⟩, ⟨4, .phase⟩, ⟨5, .phase⟩, ⟨6, .phase⟩, ⟨7, .phase⟩, ⟨8, .phase⟩, ⟨9, .phase⟩, ⟨10, .phase⟩, ⟨11, .phase⟩, ⟨12, .phase⟩, ⟨13, .phase⟩], none⟩) rfl (fun K hK => ?_) AllReadyH.nil
  go_simp
  refine hK.out _ _ ?_ (fun hNew => ?_)
  · (first | assumption | exact held_of (((Below.refl w.heap.size w).alloc (Nat.le_refl _) _).drew) | exact held_of ((Below.refl w.heap.size w).alloc (Nat.le_refl _) _))
  clear hK K hHeld
  have hHeld := hNew
  clear hNew
  try simp only [Act.put, pz1, pz2, pz3]
  refine wpAnyH_done (by kernel_rfl) ?_ _
  refine NoPanic.normal ?_
  go_wp2
  exact bodyPost_ret (v := .agg #[.int .i64 (tK tl), .int .i64 (tP tl), .int .i64 (tS tl), .int .i64 (tE tl)]) (by simp [results, Try.results74, go_sem, tP, tS, tE]) rfl ⟨rfl, ((Below.refl _ _).alloc (Nat.le_refl _) _).drew⟩
def soundB (bs : List Nat) (n : Nat) : Bool := (bs.getD n 0 == 74) && ((bs.getD (n + 15) 0 == 0) && (numB (part bs (n + 11) 4) == crcMore 0 (bs.take (n + 11))))
theorem eqNat (a b : Nat) : ((a : Int) == (b : Int)) = (a == b) := by
  rw [Bool.eq_iff_iff]
  simp only [beq_iff_eq]
  omega
theorem sound_any (bs : List Nat) (n b o c : Nat) (w : World) (h1 : Sl w w.heap.size (some ⟨b, o, none⟩) (bs.map byteV)) (h8 : Bytes8 bs) (hl : bs.length = n + 16) (hn : n ≤ 1000) (hc : n + 16 ≤ c) (hc2 : c ≤ maxLen) :
    Calls Try.prog 76 #[.slice (some ⟨b, o, none⟩) (n + 16) c, .int .i64 n] w fun e' w' => e' = .returned (.bool (soundB bs n)) ∧ w = w' := by
  unfold maxLen at hc2
  obtain ⟨b', o', hA, lb, q⟩ := h1.at_ (by simp; omega)
  cases hA
  obtain ⟨x0, hx0⟩ : ∃ x, bs.getD n 0 = x := ⟨_, rfl⟩
  obtain ⟨x1, hx1⟩ : ∃ x, bs.getD (n + 15) 0 = x := ⟨_, rfl⟩
  have hb0 : x0 < 256 := by rw [← hx0]; exact Bytes8.at_ h8 n
  have hb1 : x1 < 256 := by rw [← hx1]; exact Bytes8.at_ h8 (n + 15)
  have c0 : w.cell? ⟨b, o + n, none⟩ = some (.int .u8 (x0 : Int)) := q n _ (by rw [← hx0]; simp [byteV, show n < bs.length by omega])
  have c1 : w.cell? ⟨b, o + (n + 15), none⟩ = some (.int .u8 (x1 : Int)) := q (n + 15) _ (by rw [← hx1]; simp [byteV, show n + 15 < bs.length by omega])
  have P1 : Sl w w.heap.size (some ⟨b, o + (n + 11), none⟩) ((part bs (n + 11) 4).map byteV) := by rw [part_map]; exact sl_sub h1 (n + 11) 4
  have P2 : Sl w w.heap.size (some ⟨b, o, none⟩) ((bs.take (n + 11)).map byteV) := by have := sl_sub h1 0 (n + 11); simpa [List.map_take] using this
  have L1 : Hid ((part bs (n + 11) 4).length = 4) := Lib.hid (part_len (by omega))
  have L2 : Hid ((bs.take (n + 11)).length = n + 11) := Lib.hid (by simp; omega)
  have h8t : Bytes8 (bs.take (n + 11)) := fun b hb => h8 b (List.mem_of_mem_take hb)
  have hsd : soundB bs n = ((x0 == 74) && ((x1 == 0) && (numB (part bs (n + 11) 4) == crcMore 0 (bs.take (n + 11))))) := by unfold soundB; rw [hx0, hx1]
  have hNb : numB (part bs (n + 11) 4) < 4294967296 := (be_num4 (part_len (by omega)) (part_8 h8 _ _)).2
  have hCb : crcMore 0 (bs.take (n + 11)) < 4294967296 := crcMore_lt (by omega)
  obtain ⟨N, hN⟩ : ∃ N, numB (part bs (n + 11) 4) = N := ⟨_, rfl⟩
  obtain ⟨C, hC⟩ : ∃ C, crcMore 0 (bs.take (n + 11)) = C := ⟨_, rfl⟩
  rw [hN] at hNb hsd
  rw [hC] at hCb hsd
  have HN := Lib.hid hN
  have HC := Lib.hid hC
  have HSD := Lib.hid hsd
  have i0 : (0 : Int) ≤ (n : Int) := by omega
  have i1 : (n : Int) ≤ 1000 := by omega
  have q1 : (n : Int) + 16 ≤ (c : Int) := by omega
  have q2 : (n : Int) + 11 + 4 ≤ (c : Int) := by omega
  have q3 : (n : Int) + 11 ≤ (c : Int) := by omega
  have q4 : (n : Int) < (n : Int) + 16 := by omega
  have n1 : ¬ c = n + 11 := by omega
  have b0 : (N : Int) < 4294967296 := by omega
  have b1 : (C : Int) < 4294967296 := by omega
  have b2 : (0 : Int) ≤ (C : Int) := by omega
  clear q hx0 hx1 hl hN hC hsd
  rcases (by cases hq : (x0 == 74 : Bool) <;> simp : (x0 == 74) = true ∨ (x0 == 74) = false) with t1 | t1
  · have u1 : ((x0 : Int) == 74) = true := (eqNat x0 74).trans t1
    rcases (by cases hq : (x1 == 0 : Bool) <;> simp : (x1 == 0) = true ∨ (x1 == 0) = false) with t2 | t2
    · have u2 : ((x1 : Int) == 0) = true := (eqNat x1 0).trans t2
      have hr := HSD.out.trans (by rw [t1, t2, Bool.true_and, Bool.true_and] : _ = (N == C))
      have hr2 := hr.trans (eqNat N C).symm
      have HR := Lib.hid hr2
      clear hr hr2 t1 t2
      go_enter Try.func76, Try.ntmps76
      go_wp2_with (first
        | (go_at_call 77; refine (number_n (part bs (n + 11) 4) 4 L1.out _ _ _ P1 (part_8 h8 _ _) (by omega)).mono ?_; rw [HN.out]; rintro e' w3 ⟨rfl, rfl⟩)
        | (go_at_call 79; refine (crcOf_len (bs.take (n + 11)) (n + 11) L2.out _ _ _ P2 h8t (by have := L2.out; omega)).mono ?_; rw [HC.out]; rintro e' w3 ⟨rfl, rfl⟩))
      go_ret
      exact ⟨ret_boolT HR.out.symm, rfl⟩
    · have u2 : ((x1 : Int) == 0) = false := (eqNat x1 0).trans t2
      have hr := HSD.out.trans (by rw [t1, t2]; rfl : _ = false)
      have HR := Lib.hid hr
      clear hr t1 t2
      go_enter Try.func76, Try.ntmps76
      go_wp2_with (first
        | (go_at_call 77; refine (number_n (part bs (n + 11) 4) 4 L1.out _ _ _ P1 (part_8 h8 _ _) (by omega)).mono ?_; rw [HN.out]; rintro e' w3 ⟨rfl, rfl⟩)
        | (go_at_call 79; refine (crcOf_len (bs.take (n + 11)) (n + 11) L2.out _ _ _ P2 h8t (by have := L2.out; omega)).mono ?_; rw [HC.out]; rintro e' w3 ⟨rfl, rfl⟩))
      go_ret
      exact ⟨ret_boolT HR.out.symm, rfl⟩
  · have u1 : ((x0 : Int) == 74) = false := (eqNat x0 74).trans t1
    have hr := HSD.out.trans (by rw [t1]; rfl : _ = false)
    have HR := Lib.hid hr
    clear hr t1
    go_enter Try.func76, Try.ntmps76
    go_wp2_with (first
        | (go_at_call 77; refine (number_n (part bs (n + 11) 4) 4 L1.out _ _ _ P1 (part_8 h8 _ _) (by omega)).mono ?_; rw [HN.out]; rintro e' w3 ⟨rfl, rfl⟩)
        | (go_at_call 79; refine (crcOf_len (bs.take (n + 11)) (n + 11) L2.out _ _ _ P2 h8t (by have := L2.out; omega)).mono ?_; rw [HC.out]; rintro e' w3 ⟨rfl, rfl⟩))
    go_ret
    exact ⟨ret_boolT HR.out.symm, rfl⟩
theorem clone_any (bs : List Nat) (n b o c : Nat) (w : World) (h1 : Sl w w.heap.size (some ⟨b, o, none⟩) (bs.map byteV)) (hl : bs.length = n) (hn : n ≤ 1000) :
    Calls Try.prog 53 #[.slice (some ⟨b, o, none⟩) n c] w fun e' w' => ∃ sv, e' = .returned sv ∧ w'.ownsRow w.heap.size 5 1 sv n (bs.map byteV) ∧ Below w.heap.size w w' := by
  obtain ⟨i0, hi, hz0, hz1, hz2⟩ := info_parts infoByte
  have HL := Lib.hid hl
  clear hl
  have hnil := fun (w : World) => Lib.run_eql_slice_nil (P := Try.prog) w 46 5 (some ⟨b, o, none⟩) n c 0 0 Try.underlying46
  go_enter Try.func53, Try.ntmps53
  go_wp2_with (at_builtin; refine wpList_app _ rfl (.tmp 5) (.tmp 6) _ rfl w.heap.size 5 i0 _ 1 1 Try.underlying46 hi hz0 hz1 hz2 rfl (by decide) _ 0 [] rfl (World.ownsRow_lit w #[] 0 (Nat.le_refl _) (by unfold maxLen; omega) rfl) _ n _ (bs.map byteV) rfl (Rd.of_sl (h1.next ((Below.refl _ _).alloc (Nat.le_refl _) _)) (by simp; exact HL.out)) (oneB bs) (by unfold maxLen; omega) (by omega) (by simp) ?_; intro s2 w2 ho2 hg2 hv2)
  go_ret
  refine ⟨_, rfl, own_len (n := 0 + n) (by omega) (by simpa using ho2), ((Below.refl _ _).alloc (Nat.le_refl _) _).trans (below_app (Nat.le_refl _) (by simp) (World.ownsRow_lit (e := 5) (size := 1) w #[] 0 (Nat.le_refl _) (by unfold maxLen; omega) rfl) hg2)⟩
end Go.Proofs.Ytdfojhkpfbnmgaa
namespace Go.Proofs.Ytdfojhkpfbnmgaa
open Go.ChangeShapes Go.WideShapes Go.ChangeAt Go.RowKit
attribute [local go_sem ↓] Go.wp_at_zero Go.wp_at_succ
def readSt (bs : List Nat) : Nat :=
  if 40 ≤ bs.length ∧ bs.length ≤ 80 then
    (if blankB bs = true then 0 else if tagB (tK (bs.drop (bs.length - 16))) (tP (bs.drop (bs.length - 16))) (tS (bs.drop (bs.length - 16))) (tE (bs.drop (bs.length - 16))) = true ∧ soundB bs (bs.length - 16) = true then 1 else 2) else 2
def st4 (w : World) (g : Nat) (u0 u1 u2 u3 : Value) : World := (((w.setCell ⟨g, 0, none⟩ u0).setCell ⟨g, 1, none⟩ u1).setCell ⟨g, 2, none⟩ u2).setCell ⟨g, 3, none⟩ u3
theorem st4_blk {wx : World} {g : Nat} {T : TypeId} {a b c d : Value} (h : Blk wx g T #[a, b, c, d]) (u0 u1 u2 u3 : Value) : Blk (st4 wx g u0 u1 u2 u3) g T #[u0, u1, u2, u3] := by
  have := (((h.set_ 0 u0).set_ 1 u1).set_ 2 u2).set_ 3 u3
  simpa [st4] using this
theorem st4_below {B g : Nat} {w wx : World} (h : Below B w wx) (hg : B ≤ g) (u0 u1 u2 u3 : Value) : Below B w (st4 wx g u0 u1 u2 u3) :=
  (((h.setCell (p := ⟨g, 0, none⟩) hg u0).setCell (p := ⟨g, 1, none⟩) hg u1).setCell (p := ⟨g, 2, none⟩) hg u2).setCell (p := ⟨g, 3, none⟩) hg u3
theorem st4_far {wx : World} {g g1 : Nat} {T : TypeId} {cs : Array Value} (h : Blk wx g1 T cs) (hne : g1 ≠ g) (u0 u1 u2 u3 : Value) : Blk (st4 wx g u0 u1 u2 u3) g1 T cs :=
  (((h.far (p := ⟨g, 0, none⟩) hne u0).far (p := ⟨g, 1, none⟩) hne u1).far (p := ⟨g, 2, none⟩) hne u2).far (p := ⟨g, 3, none⟩) hne u3
theorem st4_own {wx : World} {base g : Nat} {e : TypeId} {size n : Nat} {v : Value} {xs : List Value} (h : wx.ownsRow base e size v n xs) (hg : g < base) (u0 u1 u2 u3 : Value) : (st4 wx g u0 u1 u2 u3).ownsRow base e size v n xs :=
  ownsRow_setCell_below (a := ⟨g, 3, none⟩) (ownsRow_setCell_below (a := ⟨g, 2, none⟩) (ownsRow_setCell_below (a := ⟨g, 1, none⟩) (ownsRow_setCell_below (a := ⟨g, 0, none⟩) h hg u0) hg u1) hg u2) hg u3
theorem st4_keep {w wx : World} {g1 : Nat} {T : TypeId} {a b c d : Value} (hB : Below w.heap.size w wx) (hT : Blk wx g1 T #[a, b, c, d]) (hne : g1 ≠ w.heap.size) (u0 u1 u2 u3 : Value) :
    Below w.heap.size w (st4 wx w.heap.size u0 u1 u2 u3) ∧ (st4 wx w.heap.size u0 u1 u2 u3).cell? ⟨g1, 0, none⟩ = some a ∧ (st4 wx w.heap.size u0 u1 u2 u3).cell? ⟨g1, 1, none⟩ = some b ∧ (st4 wx w.heap.size u0 u1 u2 u3).cell? ⟨g1, 2, none⟩ = some c ∧ (st4 wx w.heap.size u0 u1 u2 u3).cell? ⟨g1, 3, none⟩ = some d := by
  have h := st4_far hT hne u0 u1 u2 u3
  exact ⟨st4_below hB (Nat.le_refl _) _ _ _ _, h.cell_ 0, h.cell_ 1, h.cell_ 2, h.cell_ 3⟩
theorem sl_take {w : World} {B : Nat} {A : Option Addr} {vs : List Value} (h : Sl w B A vs) (n : Nat) : Sl w B A (vs.take n) := by
  rcases h with h | ⟨b, off, e, hlt, hc⟩
  · exact Or.inl (by simp [h])
  · refine Or.inr ⟨b, off, e, hlt, fun k f hv => hc k f ?_⟩
    rw [List.getElem?_take] at hv
    split at hv
    · exact hv
    · cases hv
theorem read_len (bs : List Nat) (A : Option Addr) (c : Nat) (w : World) (hl : ¬ (40 ≤ bs.length ∧ bs.length ≤ 80)) (n1 : bs.length ≤ 1000000) :
    Calls Try.prog 71 #[.slice A bs.length c] w fun e' w' => e' = .returned (.tuple #[.slice none 0 0, .agg #[.int .i64 0, .int .i64 0, .int .i64 0, .int .i64 0], .int .i64 2]) ∧ Below w.heap.size w w' := by
  have hd : mayDataB ((bs.length : Int) - 16) = false := by unfold mayDataB; rw [Bool.and_eq_false_iff, decide_eq_false_iff_not, decide_eq_false_iff_not]; omega
  have HD := Lib.hid hd
  clear hd hl
  go_enter Try.func71, Try.ntmps71
  go_wp2_with (go_at_call 72; refine (mayData_any _ _).mono ?_; rw [HD.out]; rintro e' w' ⟨rfl, rfl⟩)
  exact bodyPost_ret (v := .tuple #[.slice none 0 0, .agg #[.int .i64 0, .int .i64 0, .int .i64 0, .int .i64 0], .int .i64 2]) (by simp [results, Try.results71, go_sem]) rfl ⟨rfl, (Below.refl _ _).alloc (Nat.le_refl _) _⟩
theorem read_in (bs : List Nat) (n b o c : Nat) (w : World) (h1 : Sl w w.heap.size (some ⟨b, o, none⟩) (bs.map byteV)) (h8 : Bytes8 bs) (hl : bs.length = n + 16) (hn1 : 24 ≤ n) (hn2 : n ≤ 64) (hc : n + 16 ≤ c) (hc2 : c ≤ maxLen) :
    (blankB bs = true → Calls Try.prog 71 #[.slice (some ⟨b, o, none⟩) (n + 16) c] w fun e' w' => e' = .returned (.tuple #[.slice none 0 0, .agg #[.int .i64 0, .int .i64 0, .int .i64 0, .int .i64 0], .int .i64 0]) ∧ Below w.heap.size w w') ∧
    (blankB bs = false → ¬ (tagB (tK (bs.drop n)) (tP (bs.drop n)) (tS (bs.drop n)) (tE (bs.drop n)) = true ∧ soundB bs n = true) → Calls Try.prog 71 #[.slice (some ⟨b, o, none⟩) (n + 16) c] w fun e' w' => e' = .returned (.tuple #[.slice none 0 0, .agg #[.int .i64 0, .int .i64 0, .int .i64 0, .int .i64 0], .int .i64 2]) ∧ Below w.heap.size w w') ∧
    (blankB bs = false → tagB (tK (bs.drop n)) (tP (bs.drop n)) (tS (bs.drop n)) (tE (bs.drop n)) = true → soundB bs n = true → Calls Try.prog 71 #[.slice (some ⟨b, o, none⟩) (n + 16) c] w fun e' w' => ∃ sv, e' = .returned (.tuple #[sv, .agg #[.int .i64 (tK (bs.drop n)), .int .i64 (tP (bs.drop n)), .int .i64 (tS (bs.drop n)), .int .i64 (tE (bs.drop n))], .int .i64 1]) ∧ w'.ownsRow (w.heap.size + 1) 5 1 sv n ((bs.take n).map byteV) ∧ Below w.heap.size w w') := by
  have hd : mayDataB ((n : Int)) = true := by unfold mayDataB; rw [Bool.and_eq_true, decide_eq_true_eq, decide_eq_true_eq]; omega
  have hd' : mayDataB ((n : Int) + 16 - 16) = true := by rw [show (n : Int) + 16 - 16 = n by omega]; exact hd
  have HD := Lib.hid hd
  have HD' := Lib.hid hd'
  obtain ⟨b', o', hA, lb, q⟩ := h1.at_ (by simp; omega)
  cases hA
  have hB0 : Below w.heap.size w (w.alloc (.cells #[.int .i64 0, .int .i64 0, .int .i64 0, .int .i64 0] 50)) := (Below.refl _ _).alloc (Nat.le_refl _) _
  have h0 := h1.next hB0
  have htl : Sl w w.heap.size (some ⟨b, o + n, none⟩) ((bs.drop n).map byteV) := by have := sl_sub h1 n 16; rwa [← List.map_drop, List.take_of_length_le (by simp; omega)] at this
  have htl0 := htl.next hB0
  have HL := Lib.hid hl
  have HTL : Hid ((bs.drop n).length = 16) := Lib.hid (by simp; omega)
  have h8t : Bytes8 (bs.drop n) := fun x hx => h8 x (List.mem_of_mem_drop hx)
  have hc3 : c ≤ 9223372036854775807 := by unfold maxLen at hc2; omega
  have HC2 := Lib.hid hc2
  have i1 : (24 : Int) ≤ (n : Int) := by omega
  have i2 : (n : Int) ≤ 64 := by omega
  have i3 : (n : Int) ≤ (c : Int) := by omega
  have i4 : ¬ c = n := by omega
  have hcn : 16 ≤ c - n := by omega
  have hcn2 : c - n ≤ maxLen := by unfold maxLen at hc2 ⊢; omega
  have HCN2 := Lib.hid hcn2
  clear hd hd' hc2 q hcn2
  refine ⟨fun he => ?_, fun he hno => ?_, fun he ht hs => ?_⟩
  · have HE := Lib.hid he
    clear he
    have hE : ∀ (w : World), Sl w w.heap.size (some ⟨b, o, none⟩) (bs.map byteV) → Calls Try.prog 73 #[.slice (some ⟨b, o, none⟩) (n + 16) c] w fun e w' => e = .returned (.bool true) ∧ w = w' := fun w h => by
      have := erased_any bs _ c w h h8 (by have := HL.out; omega)
      rwa [HL.out, HE.out] at this
    have HE2 := Lib.hid hE
    clear hE hl
    go_enter Try.func71, Try.ntmps71
    go_wp2_with (first | (go_at_call 72; refine (mayData_any _ _).mono ?_; first | (rw [HD.out]; rintro e' w' ⟨rfl, rfl⟩) | (rw [HD'.out]; rintro e' w' ⟨rfl, rfl⟩)) | (go_at_call 73; refine (HE2.out _ h0).mono ?_; rintro e' w' ⟨rfl, rfl⟩))
    exact bodyPost_ret (v := .tuple #[.slice none 0 0, .agg #[.int .i64 0, .int .i64 0, .int .i64 0, .int .i64 0], .int .i64 0]) (by simp [results, Try.results71, go_sem]) rfl ⟨rfl, (Below.refl _ _).alloc (Nat.le_refl _) _⟩
  all_goals
    have HE := Lib.hid he
    clear he
    have hE : ∀ (w : World), Sl w w.heap.size (some ⟨b, o, none⟩) (bs.map byteV) → Calls Try.prog 73 #[.slice (some ⟨b, o, none⟩) (n + 16) c] w fun e w' => e = .returned (.bool false) ∧ w = w' := fun w h => by
      have := erased_any bs _ c w h h8 (by have := HL.out; omega)
      rwa [HL.out, HE.out] at this
    have HE2 := Lib.hid hE
    clear hE
  · rcases (by cases hq : tagB (tK (bs.drop n)) (tP (bs.drop n)) (tS (bs.drop n)) (tE (bs.drop n)) <;> simp : tagB (tK (bs.drop n)) (tP (bs.drop n)) (tS (bs.drop n)) (tE (bs.drop n)) = false ∨ tagB (tK (bs.drop n)) (tP (bs.drop n)) (tS (bs.drop n)) (tE (bs.drop n)) = true) with ht | ht
    · have HT := Lib.hid ht
      clear ht hno hl
      go_enter Try.func71, Try.ntmps71
      go_wp2_with (first
        | (go_at_call 72; refine (mayData_any _ _).mono ?_; first | (rw [HD.out]; rintro e' w' ⟨rfl, rfl⟩) | (rw [HD'.out]; rintro e' w' ⟨rfl, rfl⟩))
        | (go_at_call 73; refine (HE2.out _ h0).mono ?_; rintro e' w' ⟨rfl, rfl⟩)
        | (go_at_call 74; refine (parse_any (bs.drop n) b (o + n) _ _ htl0 h8t HTL.out hcn HCN2.out).mono ?_; rintro e' w1 ⟨rfl, hb1⟩; have HB1 := below1 hb1; have HZ1 : Blk w1 w.heap.size 50 #[.int .i64 0, .int .i64 0, .int .i64 0, .int .i64 0] := (Blk.new_ _ _ _).below hb1 (by simp); have hz1 : w.heap.size < w1.heap.size := (by { have := hb1.size; simp at this; omega }))
        | (go_at_call 75; refine (tmay_any _ _ _ _ _).mono ?_; rw [HT.out]; rintro e' w2 ⟨rfl, hb2⟩; have HB2 := btr (HB1.alloc HB1.size (.cells #[.int .i64 (tK (bs.drop n)), .int .i64 (tP (bs.drop n)), .int .i64 (tS (bs.drop n)), .int .i64 (tE (bs.drop n))] 50)) (by simp; omega) hb2; have HZ2 : Blk w2 w.heap.size 50 #[.int .i64 0, .int .i64 0, .int .i64 0, .int .i64 0] := (HZ1.alloc_ _).below hb2 (by simp; omega); have HT2 : Blk w2 w1.heap.size 50 #[.int .i64 (tK (bs.drop n)), .int .i64 (tP (bs.drop n)), .int .i64 (tS (bs.drop n)), .int .i64 (tE (bs.drop n))] := (Blk.new_ _ _ _).below hb2 (by simp); have hz2 : w1.heap.size < w2.heap.size := (by { have := hb2.size; simp at this; omega }); have SLX := ((h0.next hb1).alloc_ (.cells #[.int .i64 (tK (bs.drop n)), .int .i64 (tP (bs.drop n)), .int .i64 (tS (bs.drop n)), .int .i64 (tE (bs.drop n))] 50)).next hb2; have y0 := HZ2.cell_ 0; have y1 := HZ2.cell_ 1; have y2 := HZ2.cell_ 2; have y3 := HZ2.cell_ 3; simp at y0 y1 y2 y3; have yf := HZ2.free; have z0 := HT2.cell_ 0; have z1 := HT2.cell_ 1; have z2 := HT2.cell_ 2; have z3 := HT2.cell_ 3; simp at z0 z1 z2 z3)
        | (go_at_call 76; refine (sound_any bs n b o c _ SLX h8 HL.out (by omega) hc HC2.out).mono ?_; rw [HS.out]; rintro e' w3 ⟨rfl, rfl⟩))
      have HW := st4_blk HZ2 (.int .i64 0) (.int .i64 0) (.int .i64 0) (.int .i64 0)
      have HBW := st4_below HB2 (Nat.le_refl _) (.int .i64 0) (.int .i64 0) (.int .i64 0) (.int .i64 0)
      change bodyPost _ _ _ _ _ (st4 w2 w.heap.size (.int .i64 0) (.int .i64 0) (.int .i64 0) (.int .i64 0))
      generalize st4 w2 w.heap.size (.int .i64 0) (.int .i64 0) (.int .i64 0) (.int .i64 0) = wz at HW HBW ⊢
      have r0 := HW.cell_ 0
      have r1 := HW.cell_ 1
      have r2 := HW.cell_ 2
      have r3 := HW.cell_ 3
      simp at r0 r1 r2 r3
      exact bodyPost_ret (v := .tuple #[.slice none 0 0, .agg #[.int .i64 0, .int .i64 0, .int .i64 0, .int .i64 0], .int .i64 2]) (by simp [results, Try.results71, go_sem, r0, r1, r2, r3]) rfl ⟨rfl, HBW⟩
    · have hs : soundB bs n = false := by
        rcases (by cases hq : soundB bs n <;> simp : soundB bs n = false ∨ soundB bs n = true) with h | h
        · exact h
        · exact absurd ⟨ht, h⟩ hno
      have HT := Lib.hid ht
      have HS := Lib.hid hs
      clear ht hs hno hl
      go_enter Try.func71, Try.ntmps71
      go_wp2_with (first
        | (go_at_call 72; refine (mayData_any _ _).mono ?_; first | (rw [HD.out]; rintro e' w' ⟨rfl, rfl⟩) | (rw [HD'.out]; rintro e' w' ⟨rfl, rfl⟩))
        | (go_at_call 73; refine (HE2.out _ h0).mono ?_; rintro e' w' ⟨rfl, rfl⟩)
        | (go_at_call 74; refine (parse_any (bs.drop n) b (o + n) _ _ htl0 h8t HTL.out hcn HCN2.out).mono ?_; rintro e' w1 ⟨rfl, hb1⟩; have HB1 := below1 hb1; have HZ1 : Blk w1 w.heap.size 50 #[.int .i64 0, .int .i64 0, .int .i64 0, .int .i64 0] := (Blk.new_ _ _ _).below hb1 (by simp); have hz1 : w.heap.size < w1.heap.size := (by { have := hb1.size; simp at this; omega }))
        | (go_at_call 75; refine (tmay_any _ _ _ _ _).mono ?_; rw [HT.out]; rintro e' w2 ⟨rfl, hb2⟩; have HB2 := btr (HB1.alloc HB1.size (.cells #[.int .i64 (tK (bs.drop n)), .int .i64 (tP (bs.drop n)), .int .i64 (tS (bs.drop n)), .int .i64 (tE (bs.drop n))] 50)) (by simp; omega) hb2; have HZ2 : Blk w2 w.heap.size 50 #[.int .i64 0, .int .i64 0, .int .i64 0, .int .i64 0] := (HZ1.alloc_ _).below hb2 (by simp; omega); have HT2 : Blk w2 w1.heap.size 50 #[.int .i64 (tK (bs.drop n)), .int .i64 (tP (bs.drop n)), .int .i64 (tS (bs.drop n)), .int .i64 (tE (bs.drop n))] := (Blk.new_ _ _ _).below hb2 (by simp); have hz2 : w1.heap.size < w2.heap.size := (by { have := hb2.size; simp at this; omega }); have SLX := ((h0.next hb1).alloc_ (.cells #[.int .i64 (tK (bs.drop n)), .int .i64 (tP (bs.drop n)), .int .i64 (tS (bs.drop n)), .int .i64 (tE (bs.drop n))] 50)).next hb2; have y0 := HZ2.cell_ 0; have y1 := HZ2.cell_ 1; have y2 := HZ2.cell_ 2; have y3 := HZ2.cell_ 3; simp at y0 y1 y2 y3; have yf := HZ2.free; have z0 := HT2.cell_ 0; have z1 := HT2.cell_ 1; have z2 := HT2.cell_ 2; have z3 := HT2.cell_ 3; simp at z0 z1 z2 z3)
        | (go_at_call 76; refine (sound_any bs n b o c _ SLX h8 HL.out (by omega) hc HC2.out).mono ?_; rw [HS.out]; rintro e' w3 ⟨rfl, rfl⟩))
      have HW := st4_blk HZ2 (.int .i64 0) (.int .i64 0) (.int .i64 0) (.int .i64 0)
      have HBW := st4_below HB2 (Nat.le_refl _) (.int .i64 0) (.int .i64 0) (.int .i64 0) (.int .i64 0)
      change bodyPost _ _ _ _ _ (st4 w2 w.heap.size (.int .i64 0) (.int .i64 0) (.int .i64 0) (.int .i64 0))
      generalize st4 w2 w.heap.size (.int .i64 0) (.int .i64 0) (.int .i64 0) (.int .i64 0) = wz at HW HBW ⊢
      have r0 := HW.cell_ 0
      have r1 := HW.cell_ 1
      have r2 := HW.cell_ 2
      have r3 := HW.cell_ 3
      simp at r0 r1 r2 r3
      exact bodyPost_ret (v := .tuple #[.slice none 0 0, .agg #[.int .i64 0, .int .i64 0, .int .i64 0, .int .i64 0], .int .i64 2]) (by simp [results, Try.results71, go_sem, r0, r1, r2, r3]) rfl ⟨rfl, HBW⟩
  · have HT := Lib.hid ht
    have HS := Lib.hid hs
    clear ht hs hl
    go_enter Try.func71, Try.ntmps71
    go_wp2_with (first
        | (go_at_call 72; refine (mayData_any _ _).mono ?_; first | (rw [HD.out]; rintro e' w' ⟨rfl, rfl⟩) | (rw [HD'.out]; rintro e' w' ⟨rfl, rfl⟩))
        | (go_at_call 73; refine (HE2.out _ h0).mono ?_; rintro e' w' ⟨rfl, rfl⟩)
        | (go_at_call 74; refine (parse_any (bs.drop n) b (o + n) _ _ htl0 h8t HTL.out hcn HCN2.out).mono ?_; rintro e' w1 ⟨rfl, hb1⟩; have HB1 := below1 hb1; have HZ1 : Blk w1 w.heap.size 50 #[.int .i64 0, .int .i64 0, .int .i64 0, .int .i64 0] := (Blk.new_ _ _ _).below hb1 (by simp); have hz1 : w.heap.size < w1.heap.size := (by { have := hb1.size; simp at this; omega }))
        | (go_at_call 75; refine (tmay_any _ _ _ _ _).mono ?_; rw [HT.out]; rintro e' w2 ⟨rfl, hb2⟩; have HB2 := btr (HB1.alloc HB1.size (.cells #[.int .i64 (tK (bs.drop n)), .int .i64 (tP (bs.drop n)), .int .i64 (tS (bs.drop n)), .int .i64 (tE (bs.drop n))] 50)) (by simp; omega) hb2; have HZ2 : Blk w2 w.heap.size 50 #[.int .i64 0, .int .i64 0, .int .i64 0, .int .i64 0] := (HZ1.alloc_ _).below hb2 (by simp; omega); have HT2 : Blk w2 w1.heap.size 50 #[.int .i64 (tK (bs.drop n)), .int .i64 (tP (bs.drop n)), .int .i64 (tS (bs.drop n)), .int .i64 (tE (bs.drop n))] := (Blk.new_ _ _ _).below hb2 (by simp); have hz2 : w1.heap.size < w2.heap.size := (by { have := hb2.size; simp at this; omega }); have SLX := ((h0.next hb1).alloc_ (.cells #[.int .i64 (tK (bs.drop n)), .int .i64 (tP (bs.drop n)), .int .i64 (tS (bs.drop n)), .int .i64 (tE (bs.drop n))] 50)).next hb2; have y0 := HZ2.cell_ 0; have y1 := HZ2.cell_ 1; have y2 := HZ2.cell_ 2; have y3 := HZ2.cell_ 3; simp at y0 y1 y2 y3; have yf := HZ2.free; have z0 := HT2.cell_ 0; have z1 := HT2.cell_ 1; have z2 := HT2.cell_ 2; have z3 := HT2.cell_ 3; simp at z0 z1 z2 z3)
        | (go_at_call 76; refine (sound_any bs n b o c _ SLX h8 HL.out (by omega) hc HC2.out).mono ?_; rw [HS.out]; rintro e' w3 ⟨rfl, rfl⟩))
    have SLT : Sl w2 w2.heap.size (some ⟨b, o, none⟩) ((bs.take n).map byteV) := by rw [List.map_take]; exact sl_take SLX n
    go_wp2_with fail
    refine wp_region_noPanic ?_
    refine wp_region_held_drew (S := (fun w' => Below w.heap.size w w' ∧ w'.cell? ⟨w1.heap.size, 0, none⟩ = some (.int .i64 (tK (bs.drop n))) ∧ w'.cell? ⟨w1.heap.size, 1, none⟩ = some (.int .i64 (tP (bs.drop n))) ∧ w'.cell? ⟨w1.heap.size, 2, none⟩ = some (.int .i64 (tS (bs.drop n))) ∧ w'.cell? ⟨w1.heap.size, 3, none⟩ = some (.int .i64 (tE (bs.drop n))))) (by kernel_rfl) ?_ (fun hHeld => ?_)
    · (first | exact ⟨HB2.drew, z0, z1, z2, z3⟩ | exact ⟨HB4, x0, x1, x2, x3⟩ | exact st4_keep HB4 HT4 (by omega) _ _ _ _)
    refine tk 0 ⟨some 31, .move (.tmp 0), 46, "tag.go:68", #[], none⟩ ?_; try simp only [Act.put, pz1, pz2, pz3]
    refine tk 1 ⟨some 32, .move (.tmp 5), 3, "tag.go:68", #[], none⟩ ?_; try simp only [Act.put, pz1, pz2, pz3]
    refine tk 2 ⟨some 33, .slice 46 (.tmp 31) none (some (.tmp 32)) none, 46, "tag.go:68", #[⟨0, .data⟩, ⟨1, .data⟩], none⟩ ?_; try simp only [Act.put, pz1, pz2, pz3]
    refine tk 4 ⟨some 35, .load 50 (.tmp 6), 50, "tag.go:68", #[{ on := 5, ground := Ground.gcOnly Departure.lateStores }], none⟩ ?_; try simp only [Act.put, pz1, pz2, pz3]
    refine wpAnyH_ready (rs := [3]) (by kernel_rfl) (by simp) ?_
    refine AllReadyH.cons (o := ⟨some 34, .call { callee := .value (.func 53), args := #[.tmp 33], argTypes := #[46] }, 46, "tag.go:68", #[⟨2, .data⟩], none⟩) rfl (fun K hK => ?_) AllReadyH.nil
    go_simp
    (go_at_call 53; refine (clone_any (bs.take n) n b o _ _ (show Sl w2.drew w2.drew.heap.size (some ⟨b, o, none⟩) ((bs.take n).map byteV) from SLT) (by simp [HL.out]) (by omega)).mono ?_; rintro e' w4 ⟨sv, rfl, ho4, hb4⟩; have HB4 : Below w.heap.size w w4 := HB2.drew.trans (hb4.mono HB2.size); have HZ4 : Blk w4 w.heap.size 50 #[.int .i64 0, .int .i64 0, .int .i64 0, .int .i64 0] := Blk.below (w := w2.drew) HZ2 hb4 (by simp; omega); have HT4 : Blk w4 w1.heap.size 50 #[.int .i64 (tK (bs.drop n)), .int .i64 (tP (bs.drop n)), .int .i64 (tS (bs.drop n)), .int .i64 (tE (bs.drop n))] := Blk.below (w := w2.drew) HT2 hb4 (by simp; omega); have v0 := HZ4.cell_ 0; have v1 := HZ4.cell_ 1; have v2 := HZ4.cell_ 2; have v3 := HZ4.cell_ 3; simp at v0 v1 v2 v3; have vf := HZ4.free; have x0 := HT4.cell_ 0; have x1 := HT4.cell_ 1; have x2 := HT4.cell_ 2; have x3 := HT4.cell_ 3; simp at x0 x1 x2 x3)
    go_wp2_with fail
    refine hK.out _ _ ?_ (fun hNew => ?_)
    · (first | exact ⟨HB2.drew, z0, z1, z2, z3⟩ | exact ⟨HB4, x0, x1, x2, x3⟩ | exact st4_keep HB4 HT4 (by omega) _ _ _ _)
    clear hK K hHeld
    have hHeld := hNew
    clear hNew
    try simp only [Act.put, pz1, pz2, pz3]
    refine tk 5 ⟨some 2, .assign (.tmp 34), 46, "tag.go:68", #[⟨3, .data⟩, ⟨3, .chain⟩, ⟨0, .phase⟩, ⟨1, .phase⟩, ⟨2, .phase⟩, ⟨3, .phase⟩, { on := 4, ground := Ground.textOnly Departure.lateStores }], none⟩ ?_; try simp only [Act.put, pz1, pz2, pz3]
    refine wpAnyH_ready (rs := [6]) (by kernel_rfl) (by simp) ?_
    refine AllReadyH.cons (o := ⟨none, .store 50 (.tmp 3) (.tmp 35), 0, "tag.go:68", #[⟨4, .data⟩, ⟨5, .chain⟩, ⟨0, .phase⟩, ⟨1, .phase⟩, ⟨2, .phase⟩, ⟨3, .phase⟩, ⟨4, .phase⟩, ⟨5, .phase⟩], none⟩) rfl (fun K hK => ?_) AllReadyH.nil
    go_simp
    refine hK.out _ _ ?_ (fun hNew => ?_)
    · (first | exact ⟨HB2.drew, z0, z1, z2, z3⟩ | exact ⟨HB4, x0, x1, x2, x3⟩ | exact st4_keep HB4 HT4 (by omega) _ _ _ _)
    clear hK K hHeld
    have hHeld := hNew
    clear hNew
    try simp only [Act.put, pz1, pz2, pz3]
    refine tk 7 ⟨some 4, .assign (.const (.int .i64 1)), 3, "tag.go:68", #[⟨6, .chain⟩, ⟨0, .phase⟩, ⟨1, .phase⟩, ⟨2, .phase⟩, ⟨3, .phase⟩, ⟨4, .phase⟩, ⟨5, .phase⟩, ⟨6, .phase⟩], none⟩ ?_; try simp only [Act.put, pz1, pz2, pz3]
    refine wpAnyH_done (by kernel_rfl) ?_ _
    refine NoPanic.normal ?_
    go_wp2
    have HW := st4_blk HZ4 (.int .i64 (tK (bs.drop n))) (.int .i64 (tP (bs.drop n))) (.int .i64 (tS (bs.drop n))) (.int .i64 (tE (bs.drop n)))
    have HBW := st4_below HB4 (Nat.le_refl _) (.int .i64 (tK (bs.drop n))) (.int .i64 (tP (bs.drop n))) (.int .i64 (tS (bs.drop n))) (.int .i64 (tE (bs.drop n)))
    have HOW := st4_own (g := w.heap.size) (own_mono ho4 (base' := w.heap.size + 1) (by have := HB2.size; simp; omega)) (by omega) (.int .i64 (tK (bs.drop n))) (.int .i64 (tP (bs.drop n))) (.int .i64 (tS (bs.drop n))) (.int .i64 (tE (bs.drop n)))
    change bodyPost _ _ _ _ _ (st4 w4 w.heap.size (.int .i64 (tK (bs.drop n))) (.int .i64 (tP (bs.drop n))) (.int .i64 (tS (bs.drop n))) (.int .i64 (tE (bs.drop n))))
    generalize st4 w4 w.heap.size (.int .i64 (tK (bs.drop n))) (.int .i64 (tP (bs.drop n))) (.int .i64 (tS (bs.drop n))) (.int .i64 (tE (bs.drop n))) = wz at HW HBW HOW ⊢
    have r0 := HW.cell_ 0
    have r1 := HW.cell_ 1
    have r2 := HW.cell_ 2
    have r3 := HW.cell_ 3
    simp at r0 r1 r2 r3
    exact bodyPost_ret (v := .tuple #[sv, .agg #[.int .i64 (tK (bs.drop n)), .int .i64 (tP (bs.drop n)), .int .i64 (tS (bs.drop n)), .int .i64 (tE (bs.drop n))], .int .i64 1]) (by simp [results, Try.results71, go_sem, r0, r1, r2, r3]) rfl ⟨sv, rfl, HOW, HBW⟩
end Go.Proofs.Ytdfojhkpfbnmgaa
namespace Go.Proofs.Ytdfojhkpfbnmgaa
open Go.ChangeShapes Go.WideShapes Go.ChangeAt Go.RowKit
attribute [local go_sem ↓] Go.wp_at_zero Go.wp_at_succ
theorem getD_eq {l : List Nat} {i : Nat} (h : i < l.length) : l.getD i 0 = l[i] := by simp [h]
def tailB (k p s e C : Nat) : List Nat := [74, k, p / 256 % 256, p % 256, s / 16777216 % 256, s / 65536 % 256, s / 256 % 256, s % 256, e / 65536 % 256, e / 256 % 256, e % 256, C / 16777216 % 256, C / 65536 % 256, C / 256 % 256, C % 256, 0]
theorem raw_tail (d : List Nat) (k p s e : Nat) : rawB d k p s e = d ++ tailB k p s e (crcMore 0 (bodyB d k p s e)) := by
  unfold rawB
  obtain ⟨C, hC⟩ : ∃ C, crcMore 0 (bodyB d k p s e) = C := ⟨_, rfl⟩
  rw [hC]
  simp [bodyB, tailB, beB_2, beB_3, beB_4]
theorem raw_body (d : List Nat) (k p s e : Nat) : (rawB d k p s e).take (d.length + 11) = bodyB d k p s e := by
  unfold rawB
  rw [List.append_assoc, List.take_append_of_le_length (by rw [bodyB_len]; exact Nat.le_refl _), List.take_of_length_le (by rw [bodyB_len]; exact Nat.le_refl _)]
theorem raw_sum (d : List Nat) (k p s e : Nat) : part (rawB d k p s e) (d.length + 11) 4 = beB (crcMore 0 (bodyB d k p s e)) 4 := by
  unfold rawB part
  rw [List.append_assoc, List.drop_append_of_le_length (by rw [bodyB_len]; exact Nat.le_refl _), List.drop_of_length_le (by rw [bodyB_len]; exact Nat.le_refl _), List.nil_append, List.take_append_of_le_length (by rw [beB_len]; exact Nat.le_refl _), List.take_of_length_le (by rw [beB_len]; exact Nat.le_refl _)]
theorem raw_drop (d : List Nat) (k p s e : Nat) : (rawB d k p s e).drop d.length = tailB k p s e (crcMore 0 (bodyB d k p s e)) := by rw [raw_tail, List.drop_left]
theorem raw_mark (d : List Nat) (k p s e : Nat) : (rawB d k p s e).getD d.length 0 = 74 := by rw [raw_tail]; simp [tailB]
theorem raw_last (d : List Nat) (k p s e : Nat) : (rawB d k p s e).getD (d.length + 15) 0 = 0 := by rw [raw_tail]; simp [tailB]
theorem tail_tK (k p s e C : Nat) : tK (tailB k p s e C) = k := rfl
theorem tail_tP {k p s e C : Nat} (h : p < 65536) : tP (tailB k p s e C) = p := by simp [tP, part, tailB, numB]; omega
theorem tail_tS {k p s e C : Nat} (h : s < 4294967296) : tS (tailB k p s e C) = s := by simp [tS, part, tailB, numB]; omega
theorem tail_tE {k p s e C : Nat} (h : e < 16777216) : tE (tailB k p s e C) = e := by simp [tE, part, tailB, numB]; omega
theorem not_blank {l : List Nat} {i : Nat} (hi : i < l.length) (h : l.getD i 0 ≠ 255) : blankB l = false := by
  unfold blankB
  rw [List.all_eq_false]
  refine ⟨l[i], List.getElem_mem hi, ?_⟩
  rw [getD_eq hi] at h
  simpa using h
def LayOk (d : List Nat) (k p s e : Nat) : Prop := 24 ≤ d.length ∧ d.length ≤ 64 ∧ 1 ≤ k ∧ k ≤ 3 ∧ (k = 3 → p = 0) ∧ p < 65536 ∧ s < 4294967296 ∧ e < 16777216 ∧ Bytes8 d
theorem raw_valid {d : List Nat} {k p s e : Nat} (h : LayOk d k p s e) : readSt (rawB d k p s e) = 1 := by
  obtain ⟨h1, h2, h3, h4, h5, h6, h7, h8, h9⟩ := h
  have hl := rawB_len d k p s e
  have hn : (rawB d k p s e).length - 16 = d.length := by omega
  unfold readSt
  rw [if_pos (by omega), hn, not_blank (i := d.length) (by omega) (by rw [raw_mark]; omega), if_neg (by simp), raw_drop, tail_tK, tail_tP h6, tail_tS h7, tail_tE h8]
  rw [if_pos]
  refine ⟨tagB_iff.2 (by omega), ?_⟩
  unfold soundB
  rw [raw_mark, raw_last, raw_sum, raw_body, num_be4 (crcMore_lt (by omega))]
  simp
theorem read_bad (bs : List Nat) (N : Nat) (hN : bs.length = N) (A : Option Addr) (c : Nat) (w : World) (h1 : Sl w w.heap.size A (bs.map byteV)) (h8 : Bytes8 bs) (hc : N ≤ c) (hc2 : c ≤ maxLen) (n1 : N ≤ 1000000) (st : Nat) (hst : readSt bs = st) (hne : st ≠ 1) :
    Calls Try.prog 71 #[.slice A N c] w fun e' w' => e' = .returned (.tuple #[.slice none 0 0, .agg #[.int .i64 0, .int .i64 0, .int .i64 0, .int .i64 0], .int .i64 st]) ∧ Below w.heap.size w w' := by
  subst hN
  by_cases hr : 40 ≤ bs.length ∧ bs.length ≤ 80
  · obtain ⟨b, o, rfl, lb, q⟩ := h1.at_ (by simp; omega)
    obtain ⟨n, hn⟩ : ∃ n, bs.length = n + 16 := ⟨bs.length - 16, by omega⟩
    obtain ⟨r1, r2, r3⟩ := read_in bs n b o c w h1 h8 hn (by omega) (by omega) (by omega) hc2
    unfold readSt at hst
    rw [if_pos hr, show bs.length - 16 = n by omega] at hst
    rw [hn]
    by_cases hb : blankB bs = true
    · rw [if_pos hb] at hst
      subst hst
      exact r1 hb
    · rw [if_neg hb] at hst
      by_cases hs : tagB (tK (bs.drop n)) (tP (bs.drop n)) (tS (bs.drop n)) (tE (bs.drop n)) = true ∧ soundB bs n = true
      · rw [if_pos hs] at hst
        exact absurd hst.symm hne
      · rw [if_neg hs] at hst
        subst hst
        exact r2 (by simpa using hb) hs
  · have : st = 2 := by
      rw [← hst]
      unfold readSt
      rw [if_neg hr]
    subst this
    exact read_len bs A c w hr n1
end Go.Proofs.Ytdfojhkpfbnmgaa
namespace Go.Proofs.Ytdfojhkpfbnmgaa
open Go.ChangeShapes Go.WideShapes Go.ChangeAt Go.RowKit
attribute [local go_sem ↓] Go.wp_at_zero Go.wp_at_succ
section
variable {P : Program} (w : World)
end
def zeros : List Nat := List.replicate 24 0
end Go.Proofs.Ytdfojhkpfbnmgaa
namespace Go.Proofs.Ytdfojhkpfbnmgaa
open Go.ChangeShapes Go.WideShapes Go.ChangeAt Go.RowKit Go.Deep
def SlA (w : World) (A : Option Addr) (n c : Nat) (vs : List Value) : Prop := n = vs.length ∧ Sl w w.heap.size A vs ∧ n ≤ c ∧ c ≤ maxLen ∧ (A = none → n = 0 ∧ c = 0)
section
variable {H : Type} {enc : TypeId × Value → H} {P : Program} {w : World} {base : Nat} {spare : Nat → Bool} {held : Bool}
end
end Go.Proofs.Ytdfojhkpfbnmgaa
namespace Go.Proofs.Ytdfojhkpfbnmgaa
open Go.ChangeShapes Go.WideShapes Go.ChangeAt Go.RowKit Go.Deep
attribute [local go_sem ↓] Go.wp_at_zero Go.wp_at_succ
end Go.Proofs.Ytdfojhkpfbnmgaa
namespace Go.Proofs.Ytdfojhkpfbnmgaa
open Go.ChangeShapes Go.WideShapes Go.ChangeAt Go.RowKit
attribute [local go_sem ↓] Go.wp_at_zero Go.wp_at_succ
theorem rcrcOf_len (bs : List Nat) (n : Nat) (hn : bs.length = n) (A : Option Addr) (c : Nat) (w : World) (h1 : Sl w w.heap.size A (bs.map byteV)) (h8 : Bytes8 bs) (n1 : bs.length ≤ 1000000000) :
    Calls Try.prog 49 #[.slice A n c] w fun e w' => e = .returned (.int .u32 (crcMore 0 bs)) ∧ w = w' := by
  subst hn
  exact (rcrcOf_any bs A c w h1 h8 n1).mono fun e w' h => ⟨h.1, h.2.symm⟩
theorem rlay_yes (data : List Nat) (A : Option Addr) (c : Nat) (k p s e : Nat) (w : World) (h1 : Sl w w.heap.size A (data.map byteV)) (h : LayOk data k p s e) :
    Calls Try.prog 22 #[.slice A data.length c, .agg #[.int .i64 k, .int .i64 p, .int .i64 s, .int .i64 e]] w fun e' w' => ∃ sv, e' = .returned (.tuple #[sv, .int .i64 0]) ∧ w'.ownsRow (w.heap.size + 1) 5 1 sv (data.length + 16) ((rawB data k p s e).map byteV) ∧ Below w.heap.size w w' := by
  obtain ⟨hd1, hd2, hk1, hk2, hkp, hp, hs, he, h8⟩ := h
  have ht : tagB k p s e = true := tagB_iff.2 (by omega)
  have HT := Lib.hid ht
  have HKP := Lib.hid hkp
  have q1 : ¬ (data.length : Int) < 24 := by omega
  have q2 : ¬ (64 : Int) < (data.length : Int) := by omega
  have hG0 : Blk (w.alloc (.cells #[.int .i64 k, .int .i64 p, .int .i64 s, .int .i64 e] 50)) w.heap.size 50 #[.int .i64 k, .int .i64 p, .int .i64 s, .int .i64 e] := Blk.new_ w _ _
  have h0 := h1.next ((Below.refl _ _).alloc (Nat.le_refl _) (.cells #[.int .i64 k, .int .i64 p, .int .i64 s, .int .i64 e] 50))
  have hK : (1 : Int) ≤ (k : Int) := by omega
  have hK2 : (k : Int) ≤ 3 := by omega
  have wk : IntKind.u8.wrap (k : Int) = (k : Int) := by rw [IntKind.wrap_u8']; omega
  have he4 : e < 4294967296 := by omega
  have hp4 : p < 4294967296 := by omega
  have hcrc : crcMore 0 (bodyB data k p s e) < 4294967296 := crcMore_lt (by omega)
  have hb8 : Hid (Bytes8 (bodyB data k p s e)) := Lib.hid (bodyB_8 h8 (by omega))
  have hbl : Hid ((bodyB data k p s e).length = data.length + 11) := Lib.hid (bodyB_len _ _ _ _ _)
  obtain ⟨B, hB⟩ : ∃ B, bodyB data k p s e = B := ⟨_, rfl⟩
  have HBB := Lib.hid hB
  have hraw : (rawB data k p s e) = (B ++ beB (crcMore 0 B) 4) ++ [0] := by unfold rawB; rw [hB]
  rw [hraw]
  rw [hB] at hcrc hb8 hbl
  clear ht hkp hB hraw
  obtain ⟨i0, hi, hz0, hz1, hz2⟩ := info_parts infoByte
  go_enter Try.func22, Try.ntmps22
  go_upto_region 3 with (go_at_call 47; refine (rtmay_any _ _ _ _ _).mono ?_; rw [HT.out]; rintro e' w1 ⟨rfl, hb1⟩; have H1 := h0.next hb1; have HG1 := hG0.below hb1 (by simp); have HB1 := below1 hb1; have hzb : w.heap.size < w1.heap.size := (by { have := hb1.size; simp at this; omega }); clear hb1 h0 hG0)
  have y0 := HG1.cell_ 0
  have y1 := HG1.cell_ 1
  have y2 := HG1.cell_ 2
  have y3 := HG1.cell_ 3
  simp at y0 y1 y2 y3
  go_cut [6] (fun s6 wx => wx.ownsRow w1.heap.size 5 1 s6 (data.length + 2) ((data ++ [74, k]).map byteV) ∧ Below w1.heap.size w1 wx)
  case first =>
    refine wp_region_noPanic ?_
    refine wp_region_held_drew (S := (fun w' => Below w1.heap.size w1 w' ∧ w'.cell? ⟨w.heap.size, 0, none⟩ = some (.int .i64 k) ∧ w'.cell? ⟨w.heap.size, 1, none⟩ = some (.int .i64 p) ∧ w'.cell? ⟨w.heap.size, 2, none⟩ = some (.int .i64 s) ∧ w'.cell? ⟨w.heap.size, 3, none⟩ = some (.int .i64 e))) (by kernel_rfl) ?_ (fun hHeld => ?_)
    · (first | exact ⟨(Below.refl _ _).drew, y0, y1, y2, y3⟩ | exact ⟨HX, (HX.cell (p := ⟨w.heap.size, 0, none⟩) hzb).trans y0, (HX.cell (p := ⟨w.heap.size, 1, none⟩) hzb).trans y1, (HX.cell (p := ⟨w.heap.size, 2, none⟩) hzb).trans y2, (HX.cell (p := ⟨w.heap.size, 3, none⟩) hzb).trans y3⟩ | exact ⟨(HX.alloc HX.size _), ((HX.alloc HX.size _).cell (p := ⟨w.heap.size, 0, none⟩) hzb).trans y0, ((HX.alloc HX.size _).cell (p := ⟨w.heap.size, 1, none⟩) hzb).trans y1, ((HX.alloc HX.size _).cell (p := ⟨w.heap.size, 2, none⟩) hzb).trans y2, ((HX.alloc HX.size _).cell (p := ⟨w.heap.size, 3, none⟩) hzb).trans y3⟩ | exact ⟨((Below.refl w1.heap.size w1).alloc (Nat.le_refl _) _).drew, (((Below.refl w1.heap.size w1).alloc (Nat.le_refl _) _).drew.cell (p := ⟨w.heap.size, 0, none⟩) hzb).trans y0, (((Below.refl w1.heap.size w1).alloc (Nat.le_refl _) _).drew.cell (p := ⟨w.heap.size, 1, none⟩) hzb).trans y1, (((Below.refl w1.heap.size w1).alloc (Nat.le_refl _) _).drew.cell (p := ⟨w.heap.size, 2, none⟩) hzb).trans y2, (((Below.refl w1.heap.size w1).alloc (Nat.le_refl _) _).drew.cell (p := ⟨w.heap.size, 3, none⟩) hzb).trans y3⟩ | exact ⟨HX2, (HX2.cell (p := ⟨w.heap.size, 0, none⟩) hzb).trans y0, (HX2.cell (p := ⟨w.heap.size, 1, none⟩) hzb).trans y1, (HX2.cell (p := ⟨w.heap.size, 2, none⟩) hzb).trans y2, (HX2.cell (p := ⟨w.heap.size, 3, none⟩) hzb).trans y3⟩)
    refine tk 0 ⟨some 20, .move (.tmp 0), 46, "ref.go:27", #[], none⟩ ?_; try simp only [Act.put, pz1, pz2, pz3]
    refine tk 2 ⟨some 22, .fieldAddr 50 (.tmp 3) 0, 0, "ref.go:27", #[], none⟩ ?_; try simp only [Act.put, pz1, pz2, pz3]
    refine tk 3 ⟨some 23, .load 3 (.tmp 22), 3, "ref.go:27", #[⟨2, .data⟩], none⟩ ?_; try simp only [Act.put, pz1, pz2, pz3]
    refine tk 4 ⟨some 24, .convert 3 5 (.tmp 23), 5, "ref.go:27", #[⟨3, .data⟩], none⟩ ?_; try simp only [Act.put, pz1, pz2, pz3]
    refine wpAnyH_ready (rs := [1, 5]) (by kernel_rfl) (by simp) ?_
    refine (AllReadyH.cons (o := ⟨some 21, .call { callee := .builtin .append, args := #[.const (.slice none 0 0), .tmp 20], argTypes := #[46, 46] }, 46, "ref.go:27", #[⟨0, .data⟩], none⟩) rfl (fun K hK => ?_) (AllReadyH.cons (o := ⟨some 25, .buildSlice 46 2 #[(0, .const (.int .u8 74)), (1, .tmp 24)], 46, "ref.go:27", #[⟨4, .data⟩], none⟩) rfl (fun K hK => ?_) AllReadyH.nil))
    · refine step_app _ rfl (.const (.slice none 0 0)) (.tmp 20) _ rfl w1.heap.size 5 i0 _ 1 1 Try.underlying46 hi hz0 hz1 hz2 rfl (by decide) (.slice none 0 0) 0 [] rfl (World.ownsRow_nil _ _ _ _) _ data.length _ (data.map byteV) rfl (Rd.of_sl (H1.below hHeld.1) (by simp)) (oneB data) (by unfold maxLen; omega) (by omega) hHeld.1.size ?_
      intro s3 w3 ho1 hg3 _
      have HX := hHeld.1.trans (below_app (Nat.le_refl _) hHeld.1.size (World.ownsRow_nil _ w1.heap.size 5 1) hg3)
      refine hK.out _ _ ?_ (fun hNew => ?_)
      · (first | exact ⟨(Below.refl _ _).drew, y0, y1, y2, y3⟩ | exact ⟨HX, (HX.cell (p := ⟨w.heap.size, 0, none⟩) hzb).trans y0, (HX.cell (p := ⟨w.heap.size, 1, none⟩) hzb).trans y1, (HX.cell (p := ⟨w.heap.size, 2, none⟩) hzb).trans y2, (HX.cell (p := ⟨w.heap.size, 3, none⟩) hzb).trans y3⟩ | exact ⟨(HX.alloc HX.size _), ((HX.alloc HX.size _).cell (p := ⟨w.heap.size, 0, none⟩) hzb).trans y0, ((HX.alloc HX.size _).cell (p := ⟨w.heap.size, 1, none⟩) hzb).trans y1, ((HX.alloc HX.size _).cell (p := ⟨w.heap.size, 2, none⟩) hzb).trans y2, ((HX.alloc HX.size _).cell (p := ⟨w.heap.size, 3, none⟩) hzb).trans y3⟩ | exact ⟨((Below.refl w1.heap.size w1).alloc (Nat.le_refl _) _).drew, (((Below.refl w1.heap.size w1).alloc (Nat.le_refl _) _).drew.cell (p := ⟨w.heap.size, 0, none⟩) hzb).trans y0, (((Below.refl w1.heap.size w1).alloc (Nat.le_refl _) _).drew.cell (p := ⟨w.heap.size, 1, none⟩) hzb).trans y1, (((Below.refl w1.heap.size w1).alloc (Nat.le_refl _) _).drew.cell (p := ⟨w.heap.size, 2, none⟩) hzb).trans y2, (((Below.refl w1.heap.size w1).alloc (Nat.le_refl _) _).drew.cell (p := ⟨w.heap.size, 3, none⟩) hzb).trans y3⟩ | exact ⟨HX2, (HX2.cell (p := ⟨w.heap.size, 0, none⟩) hzb).trans y0, (HX2.cell (p := ⟨w.heap.size, 1, none⟩) hzb).trans y1, (HX2.cell (p := ⟨w.heap.size, 2, none⟩) hzb).trans y2, (HX2.cell (p := ⟨w.heap.size, 3, none⟩) hzb).trans y3⟩)
      clear hK K hHeld
      have hHeld := hNew
      clear hNew
      try simp only [Act.put, pz1, pz2, pz3]
      refine wpAnyH_ready (rs := [5]) (by kernel_rfl) (by simp) ?_
      refine AllReadyH.cons (o := ⟨some 25, .buildSlice 46 2 #[(0, .const (.int .u8 74)), (1, .tmp 24)], 46, "ref.go:27", #[⟨4, .data⟩], none⟩) rfl (fun K hK => ?_) AllReadyH.nil
      go_simp
      skip
      refine hK.out _ _ ?_ (fun hNew => ?_)
      · (first | exact ⟨(Below.refl _ _).drew, y0, y1, y2, y3⟩ | exact ⟨HX, (HX.cell (p := ⟨w.heap.size, 0, none⟩) hzb).trans y0, (HX.cell (p := ⟨w.heap.size, 1, none⟩) hzb).trans y1, (HX.cell (p := ⟨w.heap.size, 2, none⟩) hzb).trans y2, (HX.cell (p := ⟨w.heap.size, 3, none⟩) hzb).trans y3⟩ | exact ⟨(HX.alloc HX.size _), ((HX.alloc HX.size _).cell (p := ⟨w.heap.size, 0, none⟩) hzb).trans y0, ((HX.alloc HX.size _).cell (p := ⟨w.heap.size, 1, none⟩) hzb).trans y1, ((HX.alloc HX.size _).cell (p := ⟨w.heap.size, 2, none⟩) hzb).trans y2, ((HX.alloc HX.size _).cell (p := ⟨w.heap.size, 3, none⟩) hzb).trans y3⟩ | exact ⟨((Below.refl w1.heap.size w1).alloc (Nat.le_refl _) _).drew, (((Below.refl w1.heap.size w1).alloc (Nat.le_refl _) _).drew.cell (p := ⟨w.heap.size, 0, none⟩) hzb).trans y0, (((Below.refl w1.heap.size w1).alloc (Nat.le_refl _) _).drew.cell (p := ⟨w.heap.size, 1, none⟩) hzb).trans y1, (((Below.refl w1.heap.size w1).alloc (Nat.le_refl _) _).drew.cell (p := ⟨w.heap.size, 2, none⟩) hzb).trans y2, (((Below.refl w1.heap.size w1).alloc (Nat.le_refl _) _).drew.cell (p := ⟨w.heap.size, 3, none⟩) hzb).trans y3⟩ | exact ⟨HX2, (HX2.cell (p := ⟨w.heap.size, 0, none⟩) hzb).trans y0, (HX2.cell (p := ⟨w.heap.size, 1, none⟩) hzb).trans y1, (HX2.cell (p := ⟨w.heap.size, 2, none⟩) hzb).trans y2, (HX2.cell (p := ⟨w.heap.size, 3, none⟩) hzb).trans y3⟩)
      clear hK K hHeld
      have hHeld := hNew
      clear hNew
      try simp only [Act.put, pz1, pz2, pz3]
      refine wpAnyH_ready (rs := [6]) (by kernel_rfl) (by simp) ?_
      refine AllReadyH.cons (o := ⟨some 26, .call { callee := .builtin .append, args := #[.tmp 21, .tmp 25], argTypes := #[46, 46] }, 46, "ref.go:27", #[⟨1, .data⟩, ⟨5, .data⟩, ⟨1, .chain⟩], none⟩) rfl (fun K hK => ?_) AllReadyH.nil
      first
      | (refine step_app _ rfl (.tmp 21) (.tmp 25) _ rfl w1.heap.size 5 i0 _ 1 1 Try.underlying46 hi hz0 hz1 hz2 rfl (by decide) _ _ _ rfl (ho1.alloc _) _ 2 _ ([74, k].map byteV) rfl (Rd.list (vs := [74, k].map byteV) (Blk.new_ _ _ _) rfl) (oneB [74, k]) (by unfold maxLen; omega) (by omega) (by have := HX.size; simp; omega) ?_; intro s4 w4 ho2 hg4 _; have HX2 := (HX.alloc HX.size _).trans (below_app (Nat.le_refl _) (by simp; have := HX.size; omega) (ho1.alloc _) hg4))
      | (refine step_app _ rfl (.tmp 21) (.tmp 25) _ rfl w1.heap.size 5 i0 _ 1 1 Try.underlying46 hi hz0 hz1 hz2 rfl (by decide) _ _ _ rfl ho1 _ 2 _ ([74, k].map byteV) rfl (Rd.list (vs := [74, k].map byteV) ((hg3.block w1.heap.size (by simp) (by simp [Value.ownBlock])).trans (Blk.new_ w1 5 #[byteV 74, byteV k])) rfl) (oneB [74, k]) (by unfold maxLen; omega) (by omega) HX.size ?_; intro s4 w4 ho2 hg4 _; have HX2 := HX.trans (below_app (Nat.le_refl _) HX.size ho1 hg4))
      refine hK.out _ _ ?_ (fun hNew => ?_)
      · (first | exact ⟨(Below.refl _ _).drew, y0, y1, y2, y3⟩ | exact ⟨HX, (HX.cell (p := ⟨w.heap.size, 0, none⟩) hzb).trans y0, (HX.cell (p := ⟨w.heap.size, 1, none⟩) hzb).trans y1, (HX.cell (p := ⟨w.heap.size, 2, none⟩) hzb).trans y2, (HX.cell (p := ⟨w.heap.size, 3, none⟩) hzb).trans y3⟩ | exact ⟨(HX.alloc HX.size _), ((HX.alloc HX.size _).cell (p := ⟨w.heap.size, 0, none⟩) hzb).trans y0, ((HX.alloc HX.size _).cell (p := ⟨w.heap.size, 1, none⟩) hzb).trans y1, ((HX.alloc HX.size _).cell (p := ⟨w.heap.size, 2, none⟩) hzb).trans y2, ((HX.alloc HX.size _).cell (p := ⟨w.heap.size, 3, none⟩) hzb).trans y3⟩ | exact ⟨((Below.refl w1.heap.size w1).alloc (Nat.le_refl _) _).drew, (((Below.refl w1.heap.size w1).alloc (Nat.le_refl _) _).drew.cell (p := ⟨w.heap.size, 0, none⟩) hzb).trans y0, (((Below.refl w1.heap.size w1).alloc (Nat.le_refl _) _).drew.cell (p := ⟨w.heap.size, 1, none⟩) hzb).trans y1, (((Below.refl w1.heap.size w1).alloc (Nat.le_refl _) _).drew.cell (p := ⟨w.heap.size, 2, none⟩) hzb).trans y2, (((Below.refl w1.heap.size w1).alloc (Nat.le_refl _) _).drew.cell (p := ⟨w.heap.size, 3, none⟩) hzb).trans y3⟩ | exact ⟨HX2, (HX2.cell (p := ⟨w.heap.size, 0, none⟩) hzb).trans y0, (HX2.cell (p := ⟨w.heap.size, 1, none⟩) hzb).trans y1, (HX2.cell (p := ⟨w.heap.size, 2, none⟩) hzb).trans y2, (HX2.cell (p := ⟨w.heap.size, 3, none⟩) hzb).trans y3⟩)
      clear hK K hHeld
      have hHeld := hNew
      clear hNew
      try simp only [Act.put, pz1, pz2, pz3]
      refine tk 7 ⟨some 6, .assign (.tmp 26), 46, "ref.go:27", #[⟨6, .data⟩, ⟨6, .chain⟩, ⟨0, .phase⟩, ⟨1, .phase⟩, ⟨2, .phase⟩, ⟨3, .phase⟩, ⟨4, .phase⟩, ⟨5, .phase⟩, ⟨6, .phase⟩], none⟩ ?_; try simp only [Act.put, pz1, pz2, pz3]
      refine wpAnyH_done (by kernel_rfl) ?_ _
      refine NoPanic.normal ?_
      go_wp2_with fail
      go_meet
      exact ⟨own_len (n := 0 + data.length + 2) (by omega) (by simpa using ho2), HX2⟩
    · go_simp
      skip
      refine hK.out _ _ ?_ (fun hNew => ?_)
      · (first | exact ⟨(Below.refl _ _).drew, y0, y1, y2, y3⟩ | exact ⟨HX, (HX.cell (p := ⟨w.heap.size, 0, none⟩) hzb).trans y0, (HX.cell (p := ⟨w.heap.size, 1, none⟩) hzb).trans y1, (HX.cell (p := ⟨w.heap.size, 2, none⟩) hzb).trans y2, (HX.cell (p := ⟨w.heap.size, 3, none⟩) hzb).trans y3⟩ | exact ⟨(HX.alloc HX.size _), ((HX.alloc HX.size _).cell (p := ⟨w.heap.size, 0, none⟩) hzb).trans y0, ((HX.alloc HX.size _).cell (p := ⟨w.heap.size, 1, none⟩) hzb).trans y1, ((HX.alloc HX.size _).cell (p := ⟨w.heap.size, 2, none⟩) hzb).trans y2, ((HX.alloc HX.size _).cell (p := ⟨w.heap.size, 3, none⟩) hzb).trans y3⟩ | exact ⟨((Below.refl w1.heap.size w1).alloc (Nat.le_refl _) _).drew, (((Below.refl w1.heap.size w1).alloc (Nat.le_refl _) _).drew.cell (p := ⟨w.heap.size, 0, none⟩) hzb).trans y0, (((Below.refl w1.heap.size w1).alloc (Nat.le_refl _) _).drew.cell (p := ⟨w.heap.size, 1, none⟩) hzb).trans y1, (((Below.refl w1.heap.size w1).alloc (Nat.le_refl _) _).drew.cell (p := ⟨w.heap.size, 2, none⟩) hzb).trans y2, (((Below.refl w1.heap.size w1).alloc (Nat.le_refl _) _).drew.cell (p := ⟨w.heap.size, 3, none⟩) hzb).trans y3⟩ | exact ⟨HX2, (HX2.cell (p := ⟨w.heap.size, 0, none⟩) hzb).trans y0, (HX2.cell (p := ⟨w.heap.size, 1, none⟩) hzb).trans y1, (HX2.cell (p := ⟨w.heap.size, 2, none⟩) hzb).trans y2, (HX2.cell (p := ⟨w.heap.size, 3, none⟩) hzb).trans y3⟩)
      clear hK K hHeld
      have hHeld := hNew
      clear hNew
      try simp only [Act.put, pz1, pz2, pz3]
      refine wpAnyH_ready (rs := [1]) (by kernel_rfl) (by simp) ?_
      refine AllReadyH.cons (o := ⟨some 21, .call { callee := .builtin .append, args := #[.const (.slice none 0 0), .tmp 20], argTypes := #[46, 46] }, 46, "ref.go:27", #[⟨0, .data⟩], none⟩) rfl (fun K hK => ?_) AllReadyH.nil
      refine step_app _ rfl (.const (.slice none 0 0)) (.tmp 20) _ rfl w1.heap.size 5 i0 _ 1 1 Try.underlying46 hi hz0 hz1 hz2 rfl (by decide) (.slice none 0 0) 0 [] rfl (World.ownsRow_nil _ _ _ _) _ data.length _ (data.map byteV) rfl (Rd.of_sl (H1.below hHeld.1) (by simp)) (oneB data) (by unfold maxLen; omega) (by omega) hHeld.1.size ?_
      intro s3 w3 ho1 hg3 _
      have HX := hHeld.1.trans (below_app (Nat.le_refl _) hHeld.1.size (World.ownsRow_nil _ w1.heap.size 5 1) hg3)
      refine hK.out _ _ ?_ (fun hNew => ?_)
      · (first | exact ⟨(Below.refl _ _).drew, y0, y1, y2, y3⟩ | exact ⟨HX, (HX.cell (p := ⟨w.heap.size, 0, none⟩) hzb).trans y0, (HX.cell (p := ⟨w.heap.size, 1, none⟩) hzb).trans y1, (HX.cell (p := ⟨w.heap.size, 2, none⟩) hzb).trans y2, (HX.cell (p := ⟨w.heap.size, 3, none⟩) hzb).trans y3⟩ | exact ⟨(HX.alloc HX.size _), ((HX.alloc HX.size _).cell (p := ⟨w.heap.size, 0, none⟩) hzb).trans y0, ((HX.alloc HX.size _).cell (p := ⟨w.heap.size, 1, none⟩) hzb).trans y1, ((HX.alloc HX.size _).cell (p := ⟨w.heap.size, 2, none⟩) hzb).trans y2, ((HX.alloc HX.size _).cell (p := ⟨w.heap.size, 3, none⟩) hzb).trans y3⟩ | exact ⟨((Below.refl w1.heap.size w1).alloc (Nat.le_refl _) _).drew, (((Below.refl w1.heap.size w1).alloc (Nat.le_refl _) _).drew.cell (p := ⟨w.heap.size, 0, none⟩) hzb).trans y0, (((Below.refl w1.heap.size w1).alloc (Nat.le_refl _) _).drew.cell (p := ⟨w.heap.size, 1, none⟩) hzb).trans y1, (((Below.refl w1.heap.size w1).alloc (Nat.le_refl _) _).drew.cell (p := ⟨w.heap.size, 2, none⟩) hzb).trans y2, (((Below.refl w1.heap.size w1).alloc (Nat.le_refl _) _).drew.cell (p := ⟨w.heap.size, 3, none⟩) hzb).trans y3⟩ | exact ⟨HX2, (HX2.cell (p := ⟨w.heap.size, 0, none⟩) hzb).trans y0, (HX2.cell (p := ⟨w.heap.size, 1, none⟩) hzb).trans y1, (HX2.cell (p := ⟨w.heap.size, 2, none⟩) hzb).trans y2, (HX2.cell (p := ⟨w.heap.size, 3, none⟩) hzb).trans y3⟩)
      clear hK K hHeld
      have hHeld := hNew
      clear hNew
      try simp only [Act.put, pz1, pz2, pz3]
      refine wpAnyH_ready (rs := [6]) (by kernel_rfl) (by simp) ?_
      refine AllReadyH.cons (o := ⟨some 26, .call { callee := .builtin .append, args := #[.tmp 21, .tmp 25], argTypes := #[46, 46] }, 46, "ref.go:27", #[⟨1, .data⟩, ⟨5, .data⟩, ⟨1, .chain⟩], none⟩) rfl (fun K hK => ?_) AllReadyH.nil
      first
      | (refine step_app _ rfl (.tmp 21) (.tmp 25) _ rfl w1.heap.size 5 i0 _ 1 1 Try.underlying46 hi hz0 hz1 hz2 rfl (by decide) _ _ _ rfl (ho1.alloc _) _ 2 _ ([74, k].map byteV) rfl (Rd.list (vs := [74, k].map byteV) (Blk.new_ _ _ _) rfl) (oneB [74, k]) (by unfold maxLen; omega) (by omega) (by have := HX.size; simp; omega) ?_; intro s4 w4 ho2 hg4 _; have HX2 := (HX.alloc HX.size _).trans (below_app (Nat.le_refl _) (by simp; have := HX.size; omega) (ho1.alloc _) hg4))
      | (refine step_app _ rfl (.tmp 21) (.tmp 25) _ rfl w1.heap.size 5 i0 _ 1 1 Try.underlying46 hi hz0 hz1 hz2 rfl (by decide) _ _ _ rfl ho1 _ 2 _ ([74, k].map byteV) rfl (Rd.list (vs := [74, k].map byteV) ((hg3.block w1.heap.size (by simp) (by simp [Value.ownBlock])).trans (Blk.new_ w1 5 #[byteV 74, byteV k])) rfl) (oneB [74, k]) (by unfold maxLen; omega) (by omega) HX.size ?_; intro s4 w4 ho2 hg4 _; have HX2 := HX.trans (below_app (Nat.le_refl _) HX.size ho1 hg4))
      refine hK.out _ _ ?_ (fun hNew => ?_)
      · (first | exact ⟨(Below.refl _ _).drew, y0, y1, y2, y3⟩ | exact ⟨HX, (HX.cell (p := ⟨w.heap.size, 0, none⟩) hzb).trans y0, (HX.cell (p := ⟨w.heap.size, 1, none⟩) hzb).trans y1, (HX.cell (p := ⟨w.heap.size, 2, none⟩) hzb).trans y2, (HX.cell (p := ⟨w.heap.size, 3, none⟩) hzb).trans y3⟩ | exact ⟨(HX.alloc HX.size _), ((HX.alloc HX.size _).cell (p := ⟨w.heap.size, 0, none⟩) hzb).trans y0, ((HX.alloc HX.size _).cell (p := ⟨w.heap.size, 1, none⟩) hzb).trans y1, ((HX.alloc HX.size _).cell (p := ⟨w.heap.size, 2, none⟩) hzb).trans y2, ((HX.alloc HX.size _).cell (p := ⟨w.heap.size, 3, none⟩) hzb).trans y3⟩ | exact ⟨((Below.refl w1.heap.size w1).alloc (Nat.le_refl _) _).drew, (((Below.refl w1.heap.size w1).alloc (Nat.le_refl _) _).drew.cell (p := ⟨w.heap.size, 0, none⟩) hzb).trans y0, (((Below.refl w1.heap.size w1).alloc (Nat.le_refl _) _).drew.cell (p := ⟨w.heap.size, 1, none⟩) hzb).trans y1, (((Below.refl w1.heap.size w1).alloc (Nat.le_refl _) _).drew.cell (p := ⟨w.heap.size, 2, none⟩) hzb).trans y2, (((Below.refl w1.heap.size w1).alloc (Nat.le_refl _) _).drew.cell (p := ⟨w.heap.size, 3, none⟩) hzb).trans y3⟩ | exact ⟨HX2, (HX2.cell (p := ⟨w.heap.size, 0, none⟩) hzb).trans y0, (HX2.cell (p := ⟨w.heap.size, 1, none⟩) hzb).trans y1, (HX2.cell (p := ⟨w.heap.size, 2, none⟩) hzb).trans y2, (HX2.cell (p := ⟨w.heap.size, 3, none⟩) hzb).trans y3⟩)
      clear hK K hHeld
      have hHeld := hNew
      clear hNew
      try simp only [Act.put, pz1, pz2, pz3]
      refine tk 7 ⟨some 6, .assign (.tmp 26), 46, "ref.go:27", #[⟨6, .data⟩, ⟨6, .chain⟩, ⟨0, .phase⟩, ⟨1, .phase⟩, ⟨2, .phase⟩, ⟨3, .phase⟩, ⟨4, .phase⟩, ⟨5, .phase⟩, ⟨6, .phase⟩], none⟩ ?_; try simp only [Act.put, pz1, pz2, pz3]
      refine wpAnyH_done (by kernel_rfl) ?_ _
      refine NoPanic.normal ?_
      go_wp2_with fail
      go_meet
      exact ⟨own_len (n := 0 + data.length + 2) (by omega) (by simpa using ho2), HX2⟩
  case rest =>
  obtain ⟨ho2, HX⟩ := hcut
  obtain ⟨w2, rfl⟩ : ∃ W : World, W = wc := ⟨_, rfl⟩
  have G2 := HG1.below HX hzb
  clear y0 y1 y2 y3
  have y0 := G2.cell_ 0
  have y1 := G2.cell_ 1
  have y2 := G2.cell_ 2
  have y3 := G2.cell_ 3
  simp at y0 y1 y2 y3
  go_upto_region 4 with fail
  go_cut [6] (fun s6 wx => wx.ownsRow w1.heap.size 5 1 s6 (data.length + 11) (B.map byteV) ∧ Below w1.heap.size w1 wx)
  case first =>
    have x0 := HG1.cell_ 0
    have x1 := HG1.cell_ 1
    have x2 := HG1.cell_ 2
    have x3 := HG1.cell_ 3
    simp at x0 x1 x2 x3
    refine wp_region_noPanic ?_
    refine wp_region_held_drew (S := (fun w' => Below w1.heap.size w1 w' ∧ w'.cell? ⟨w.heap.size, 0, none⟩ = some (.int .i64 k) ∧ w'.cell? ⟨w.heap.size, 1, none⟩ = some (.int .i64 p) ∧ w'.cell? ⟨w.heap.size, 2, none⟩ = some (.int .i64 s) ∧ w'.cell? ⟨w.heap.size, 3, none⟩ = some (.int .i64 e))) (by kernel_rfl) ?_ (fun hHeld => ?_)
    · (first | exact ⟨HX.drew, y0, y1, y2, y3⟩ | exact ⟨HX3, (Below.cell (p := ⟨w.heap.size, 0, none⟩) HX3 hzb).trans x0, (Below.cell (p := ⟨w.heap.size, 1, none⟩) HX3 hzb).trans x1, (Below.cell (p := ⟨w.heap.size, 2, none⟩) HX3 hzb).trans x2, (Below.cell (p := ⟨w.heap.size, 3, none⟩) HX3 hzb).trans x3⟩ | exact ⟨HX4, (Below.cell (p := ⟨w.heap.size, 0, none⟩) HX4 hzb).trans x0, (Below.cell (p := ⟨w.heap.size, 1, none⟩) HX4 hzb).trans x1, (Below.cell (p := ⟨w.heap.size, 2, none⟩) HX4 hzb).trans x2, (Below.cell (p := ⟨w.heap.size, 3, none⟩) HX4 hzb).trans x3⟩ | exact ⟨HX5, (Below.cell (p := ⟨w.heap.size, 0, none⟩) HX5 hzb).trans x0, (Below.cell (p := ⟨w.heap.size, 1, none⟩) HX5 hzb).trans x1, (Below.cell (p := ⟨w.heap.size, 2, none⟩) HX5 hzb).trans x2, (Below.cell (p := ⟨w.heap.size, 3, none⟩) HX5 hzb).trans x3⟩)
    refine tk 0 ⟨some 27, .move (.tmp 6), 46, "ref.go:28", #[], none⟩ ?_; try simp only [Act.put, pz1, pz2, pz3]
    refine tk 1 ⟨some 28, .fieldAddr 50 (.tmp 3) 1, 0, "ref.go:28", #[], none⟩ ?_; try simp only [Act.put, pz1, pz2, pz3]
    refine tk 2 ⟨some 29, .load 3 (.tmp 28), 3, "ref.go:28", #[⟨1, .data⟩], none⟩ ?_; try simp only [Act.put, pz1, pz2, pz3]
    refine tk 4 ⟨some 31, .fieldAddr 50 (.tmp 3) 2, 0, "ref.go:28", #[], none⟩ ?_; try simp only [Act.put, pz1, pz2, pz3]
    refine tk 5 ⟨some 32, .load 3 (.tmp 31), 3, "ref.go:28", #[⟨4, .data⟩], none⟩ ?_; try simp only [Act.put, pz1, pz2, pz3]
    refine tk 7 ⟨some 34, .fieldAddr 50 (.tmp 3) 3, 0, "ref.go:28", #[], none⟩ ?_; try simp only [Act.put, pz1, pz2, pz3]
    refine tk 8 ⟨some 35, .load 3 (.tmp 34), 3, "ref.go:28", #[⟨7, .data⟩], none⟩ ?_; try simp only [Act.put, pz1, pz2, pz3]
    refine wpAnyH_ready (rs := [3]) (by kernel_rfl) (by simp) ?_
    refine AllReadyH.cons (o := ⟨some 30, .call { callee := .value (.func 48), args := #[.tmp 27, .tmp 29, .const (.int .i64 2)], argTypes := #[46, 3, 3] }, 46, "ref.go:28", #[⟨0, .data⟩, ⟨2, .data⟩], none⟩) rfl (fun K hK => ?_) AllReadyH.nil
    go_simp
    (first
          | (go_at_call 48; ((with_reducible refine (rnum_n p 2 2 rfl w1.heap.size _ _ _ _ hp4 (by omega) (by omega) ho2.drew hHeld.1.size (by omega)).mono ?_); rintro e' w3 ⟨s3, rfl, ho3, hb3, _⟩; have HX3 := hHeld.1.trans hb3))
          | (go_at_call 48; ((with_reducible refine (rnum_n s 4 4 rfl w1.heap.size _ _ _ _ hs (by omega) (by omega) ho3 hHeld.1.size (by omega)).mono ?_); rintro e' w4 ⟨s4, rfl, ho4, hb4, _⟩; have HX4 := hHeld.1.trans hb4))
          | (go_at_call 48; ((with_reducible refine (rnum_n e 3 3 rfl w1.heap.size _ _ _ _ he4 (by omega) (by omega) ho4 hHeld.1.size (by omega)).mono ?_); rintro e' w5 ⟨s5, rfl, ho5, hb5, _⟩; have HX5 := hHeld.1.trans hb5)))
    go_wp2_with fail
    refine hK.out _ _ ?_ (fun hNew => ?_)
    · (first | exact ⟨HX.drew, y0, y1, y2, y3⟩ | exact ⟨HX3, (Below.cell (p := ⟨w.heap.size, 0, none⟩) HX3 hzb).trans x0, (Below.cell (p := ⟨w.heap.size, 1, none⟩) HX3 hzb).trans x1, (Below.cell (p := ⟨w.heap.size, 2, none⟩) HX3 hzb).trans x2, (Below.cell (p := ⟨w.heap.size, 3, none⟩) HX3 hzb).trans x3⟩ | exact ⟨HX4, (Below.cell (p := ⟨w.heap.size, 0, none⟩) HX4 hzb).trans x0, (Below.cell (p := ⟨w.heap.size, 1, none⟩) HX4 hzb).trans x1, (Below.cell (p := ⟨w.heap.size, 2, none⟩) HX4 hzb).trans x2, (Below.cell (p := ⟨w.heap.size, 3, none⟩) HX4 hzb).trans x3⟩ | exact ⟨HX5, (Below.cell (p := ⟨w.heap.size, 0, none⟩) HX5 hzb).trans x0, (Below.cell (p := ⟨w.heap.size, 1, none⟩) HX5 hzb).trans x1, (Below.cell (p := ⟨w.heap.size, 2, none⟩) HX5 hzb).trans x2, (Below.cell (p := ⟨w.heap.size, 3, none⟩) HX5 hzb).trans x3⟩)
    clear hK K hHeld
    have hHeld := hNew
    clear hNew
    try simp only [Act.put, pz1, pz2, pz3]
    refine wpAnyH_ready (rs := [6]) (by kernel_rfl) (by simp) ?_
    refine AllReadyH.cons (o := ⟨some 33, .call { callee := .value (.func 48), args := #[.tmp 30, .tmp 32, .const (.int .i64 4)], argTypes := #[46, 3, 3] }, 46, "ref.go:28", #[⟨3, .data⟩, ⟨5, .data⟩, ⟨3, .chain⟩], none⟩) rfl (fun K hK => ?_) AllReadyH.nil
    go_simp
    (first
          | (go_at_call 48; ((with_reducible refine (rnum_n p 2 2 rfl w1.heap.size _ _ _ _ hp4 (by omega) (by omega) ho2.drew hHeld.1.size (by omega)).mono ?_); rintro e' w3 ⟨s3, rfl, ho3, hb3, _⟩; have HX3 := hHeld.1.trans hb3))
          | (go_at_call 48; ((with_reducible refine (rnum_n s 4 4 rfl w1.heap.size _ _ _ _ hs (by omega) (by omega) ho3 hHeld.1.size (by omega)).mono ?_); rintro e' w4 ⟨s4, rfl, ho4, hb4, _⟩; have HX4 := hHeld.1.trans hb4))
          | (go_at_call 48; ((with_reducible refine (rnum_n e 3 3 rfl w1.heap.size _ _ _ _ he4 (by omega) (by omega) ho4 hHeld.1.size (by omega)).mono ?_); rintro e' w5 ⟨s5, rfl, ho5, hb5, _⟩; have HX5 := hHeld.1.trans hb5)))
    go_wp2_with fail
    refine hK.out _ _ ?_ (fun hNew => ?_)
    · (first | exact ⟨HX.drew, y0, y1, y2, y3⟩ | exact ⟨HX3, (Below.cell (p := ⟨w.heap.size, 0, none⟩) HX3 hzb).trans x0, (Below.cell (p := ⟨w.heap.size, 1, none⟩) HX3 hzb).trans x1, (Below.cell (p := ⟨w.heap.size, 2, none⟩) HX3 hzb).trans x2, (Below.cell (p := ⟨w.heap.size, 3, none⟩) HX3 hzb).trans x3⟩ | exact ⟨HX4, (Below.cell (p := ⟨w.heap.size, 0, none⟩) HX4 hzb).trans x0, (Below.cell (p := ⟨w.heap.size, 1, none⟩) HX4 hzb).trans x1, (Below.cell (p := ⟨w.heap.size, 2, none⟩) HX4 hzb).trans x2, (Below.cell (p := ⟨w.heap.size, 3, none⟩) HX4 hzb).trans x3⟩ | exact ⟨HX5, (Below.cell (p := ⟨w.heap.size, 0, none⟩) HX5 hzb).trans x0, (Below.cell (p := ⟨w.heap.size, 1, none⟩) HX5 hzb).trans x1, (Below.cell (p := ⟨w.heap.size, 2, none⟩) HX5 hzb).trans x2, (Below.cell (p := ⟨w.heap.size, 3, none⟩) HX5 hzb).trans x3⟩)
    clear hK K hHeld
    have hHeld := hNew
    clear hNew
    try simp only [Act.put, pz1, pz2, pz3]
    refine wpAnyH_ready (rs := [9]) (by kernel_rfl) (by simp) ?_
    refine AllReadyH.cons (o := ⟨some 36, .call { callee := .value (.func 48), args := #[.tmp 33, .tmp 35, .const (.int .i64 3)], argTypes := #[46, 3, 3] }, 46, "ref.go:28", #[⟨6, .data⟩, ⟨8, .data⟩, ⟨6, .chain⟩], none⟩) rfl (fun K hK => ?_) AllReadyH.nil
    go_simp
    (first
          | (go_at_call 48; ((with_reducible refine (rnum_n p 2 2 rfl w1.heap.size _ _ _ _ hp4 (by omega) (by omega) ho2.drew hHeld.1.size (by omega)).mono ?_); rintro e' w3 ⟨s3, rfl, ho3, hb3, _⟩; have HX3 := hHeld.1.trans hb3))
          | (go_at_call 48; ((with_reducible refine (rnum_n s 4 4 rfl w1.heap.size _ _ _ _ hs (by omega) (by omega) ho3 hHeld.1.size (by omega)).mono ?_); rintro e' w4 ⟨s4, rfl, ho4, hb4, _⟩; have HX4 := hHeld.1.trans hb4))
          | (go_at_call 48; ((with_reducible refine (rnum_n e 3 3 rfl w1.heap.size _ _ _ _ he4 (by omega) (by omega) ho4 hHeld.1.size (by omega)).mono ?_); rintro e' w5 ⟨s5, rfl, ho5, hb5, _⟩; have HX5 := hHeld.1.trans hb5)))
    go_wp2_with fail
    refine hK.out _ _ ?_ (fun hNew => ?_)
    · (first | exact ⟨HX.drew, y0, y1, y2, y3⟩ | exact ⟨HX3, (Below.cell (p := ⟨w.heap.size, 0, none⟩) HX3 hzb).trans x0, (Below.cell (p := ⟨w.heap.size, 1, none⟩) HX3 hzb).trans x1, (Below.cell (p := ⟨w.heap.size, 2, none⟩) HX3 hzb).trans x2, (Below.cell (p := ⟨w.heap.size, 3, none⟩) HX3 hzb).trans x3⟩ | exact ⟨HX4, (Below.cell (p := ⟨w.heap.size, 0, none⟩) HX4 hzb).trans x0, (Below.cell (p := ⟨w.heap.size, 1, none⟩) HX4 hzb).trans x1, (Below.cell (p := ⟨w.heap.size, 2, none⟩) HX4 hzb).trans x2, (Below.cell (p := ⟨w.heap.size, 3, none⟩) HX4 hzb).trans x3⟩ | exact ⟨HX5, (Below.cell (p := ⟨w.heap.size, 0, none⟩) HX5 hzb).trans x0, (Below.cell (p := ⟨w.heap.size, 1, none⟩) HX5 hzb).trans x1, (Below.cell (p := ⟨w.heap.size, 2, none⟩) HX5 hzb).trans x2, (Below.cell (p := ⟨w.heap.size, 3, none⟩) HX5 hzb).trans x3⟩)
    clear hK K hHeld
    have hHeld := hNew
    clear hNew
    try simp only [Act.put, pz1, pz2, pz3]
    refine tk 10 ⟨some 6, .assign (.tmp 36), 46, "ref.go:28", #[⟨9, .data⟩, ⟨9, .chain⟩, ⟨0, .phase⟩, ⟨1, .phase⟩, ⟨2, .phase⟩, ⟨3, .phase⟩, ⟨4, .phase⟩, ⟨5, .phase⟩, ⟨6, .phase⟩, ⟨7, .phase⟩, ⟨8, .phase⟩, ⟨9, .phase⟩], none⟩ ?_; try simp only [Act.put, pz1, pz2, pz3]
    refine wpAnyH_done (by kernel_rfl) ?_ _
    refine NoPanic.normal ?_
    go_wp2_with fail
    go_meet
    exact ⟨own_len (n := data.length + 2 + 2 + 4 + 3) (by omega) (by rw [show (((data ++ [74, k]) ++ beB p 2) ++ beB s 4) ++ beB e 3 = B from HBB.out] at ho5; exact ho5), HX5⟩
  case rest =>
  clear HX ho2 y0 y1 y2 y3
  obtain ⟨ho5, HX⟩ := hcut
  obtain ⟨w5, rfl⟩ : ∃ W : World, W = wc := ⟨_, rfl⟩
  obtain ⟨A5, c5, rfl, hl5, hc5, hc6, hA5, H5⟩ := own_slice ho5
  have HL5 := Lib.hid hl5
  clear hl5 hc5 hc6 hA5
  go_wp2_with (first
    | (go_at_call 49; refine (rcrcOf_len B _ HL5.out _ _ _ H5 hb8.out (by have := hbl.out; omega)).mono ?_; rintro e' w8 ⟨rfl, rfl⟩; have ho6 := ho5)
    | (go_at_call 48; ((with_reducible refine (rnum_n (crcMore 0 B) 4 4 rfl w1.heap.size _ _ _ _ hcrc (by omega) (by omega) ho6 HX.size (by omega)).mono ?_); rintro e' w9 ⟨s9, rfl, ho7, hb9, _⟩; have HX := HX.trans hb9))
    | (at_builtin; refine wpList_app _ rfl (.tmp 42) (.tmp 43) _ rfl w1.heap.size 5 i0 _ 1 1 Try.underlying46 hi hz0 hz1 hz2 rfl (by decide) _ _ _ rfl (ho7.alloc _) _ 1 _ ([0].map byteV) rfl (Rd.list (vs := [0].map byteV) (Blk.new_ _ _ _) rfl) (oneB [0]) (by unfold maxLen; omega) (by omega) (by have := HX.size; simp; omega) ?_; intro s10 w10 ho8 hg10 _; have HX := (HX.alloc HX.size _).trans (below_app (Nat.le_refl _) (by simp; have := HX.size; omega) (ho7.alloc _) hg10)))
  go_ret2
  refine ⟨_, rfl, own_mono (own_len ?_ (by rw [List.map_append]; exact ho8)) (by omega), HB1.trans (HX.mono (by omega))⟩
  omega
end Go.Proofs.Ytdfojhkpfbnmgaa
namespace Go.Proofs.Ytdfojhkpfbnmgaa
open Go.ChangeShapes Go.WideShapes Go.ChangeAt Go.RowKit
attribute [local go_sem ↓] Go.wp_at_zero Go.wp_at_succ
theorem four {l : List Nat} (h : l.length = 4) : ∃ a b c d, l = [a, b, c, d] := by
  match l, h with
  | [a, b, c, d], _ => exact ⟨a, b, c, d, rfl⟩
def strB (bs : List Nat) : ByteArray := ⟨(bs.map fun n => UInt8.ofNat n).toArray⟩
end Go.Proofs.Ytdfojhkpfbnmgaa
namespace Go.Proofs.Ytdfojhkpfbnmgaa
open Go.ChangeShapes Go.WideShapes Go.ChangeAt Go.RowKit
attribute [local go_sem ↓] Go.wp_at_zero Go.wp_at_succ
end Go.Proofs.Ytdfojhkpfbnmgaa
namespace Go.Proofs.Ytdfojhkpfbnmgaa
open Go.ChangeShapes Go.WideShapes Go.ChangeAt Go.RowKit
attribute [local go_sem ↓] Go.wp_at_zero Go.wp_at_succ
end Go.Proofs.Ytdfojhkpfbnmgaa
namespace Go.Proofs.Ytdfojhkpfbnmgaa
open Go.ChangeShapes Go.WideShapes Go.ChangeAt Go.RowKit
attribute [local go_sem ↓] Go.wp_at_zero Go.wp_at_succ
end Go.Proofs.Ytdfojhkpfbnmgaa
namespace Go.Proofs.Ytdfojhkpfbnmgaa
open Go.ChangeShapes Go.WideShapes Go.ChangeAt Go.RowKit
attribute [local go_sem ↓] Go.wp_at_zero Go.wp_at_succ
structure OkRead (bs : List Nat) (N n : Nat) (D : List Nat) (K P S E : Nat) : Prop where
  h8 : Bytes8 bs
  hl : bs.length = n + 16
  hN : n + 16 = N
  hn1 : 24 ≤ n
  hn2 : n ≤ 64
  hD : bs.take n = D
  hK : tK (bs.drop n) = K
  hP : tP (bs.drop n) = P
  hS : tS (bs.drop n) = S
  hE : tE (bs.drop n) = E
  hst : readSt bs = 1
theorem st_ok {bs : List Nat} {n : Nat} (hl : bs.length = n + 16) (h : readSt bs = 1) : 24 ≤ n ∧ n ≤ 64 ∧ blankB bs = false ∧ tagB (tK (bs.drop n)) (tP (bs.drop n)) (tS (bs.drop n)) (tE (bs.drop n)) = true ∧ soundB bs n = true := by
  unfold readSt at h
  by_cases hr : 40 ≤ bs.length ∧ bs.length ≤ 80
  · rw [if_pos hr, show bs.length - 16 = n by omega] at h
    by_cases hb : blankB bs = true
    · rw [if_pos hb] at h
      cases h
    · rw [if_neg hb] at h
      split at h
      · rename_i h2
        exact ⟨by omega, by omega, by simpa using hb, h2.1, h2.2⟩
      · cases h
  · rw [if_neg hr] at h
    cases h
theorem ok_split {bs : List Nat} (h8 : Bytes8 bs) (h : readSt bs = 1) : ∃ n D K P S E, OkRead bs bs.length n D K P S E := by
  have hr : 40 ≤ bs.length ∧ bs.length ≤ 80 := by
    by_cases hr : 40 ≤ bs.length ∧ bs.length ≤ 80
    · exact hr
    · unfold readSt at h
      rw [if_neg hr] at h
      cases h
  obtain ⟨n, hn⟩ : ∃ n, bs.length = n + 16 := ⟨bs.length - 16, by omega⟩
  have q := st_ok hn h
  exact ⟨n, _, _, _, _, _, h8, hn, hn.symm, q.1, q.2.1, rfl, rfl, rfl, rfl, rfl, h⟩
theorem read_okT {bs D : List Nat} {N n Ka Pa Sa Ea : Nat} (hf : OkRead bs N n D Ka Pa Sa Ea) (A : Option Addr) (c : Nat) (w : World) (h1 : Sl w w.heap.size A (bs.map byteV)) (hc : N ≤ c) (hc2 : c ≤ maxLen) :
    Calls Try.prog 71 #[.slice A N c] w fun e' w' => ∃ sv, e' = .returned (.tuple #[sv, .agg #[.int .i64 (Ka : Nat), .int .i64 (Pa : Nat), .int .i64 (Sa : Nat), .int .i64 (Ea : Nat)], .int .i64 1]) ∧ w'.ownsRow (w.heap.size + 1) 5 1 sv n (D.map byteV) ∧ Below w.heap.size w w' := by
  obtain ⟨h8, hl, hN, hn1, hn2, hD, hK, hP, hS, hE, hst⟩ := hf
  obtain ⟨b, o, rfl, lb, q⟩ := h1.at_ (by simp; omega)
  clear q lb
  subst hN hD hK hP hS hE
  have q := st_ok hl hst
  exact (read_in bs n b o c w h1 h8 hl hn1 hn2 hc hc2).2.2 q.2.2.1 q.2.2.2.1 q.2.2.2.2
end Go.Proofs.Ytdfojhkpfbnmgaa
namespace Go.Proofs.Ytdfojhkpfbnmgaa
open Go.ChangeShapes Go.WideShapes Go.ChangeAt Go.RowKit
def lkD (bs : List Nat) : List Nat := if readSt bs = 1 then bs.take (bs.length - 16) else []
def lkT (bs : List Nat) : Nat × Nat × Nat × Nat := if readSt bs = 1 then (tK (bs.drop (bs.length - 16)), tP (bs.drop (bs.length - 16)), tS (bs.drop (bs.length - 16)), tE (bs.drop (bs.length - 16))) else (0, 0, 0, 0)
structure Lk (bs D : List Nat) (n K P S E st : Nat) : Prop where
  d : lkD bs = D
  n : D.length = n
  t : lkT bs = (K, P, S, E)
  st : readSt bs = st
theorem Lk.ex (bs : List Nat) : ∃ D n K P S E st, Lk bs D n K P S E st := ⟨_, _, _, _, _, _, _, rfl, rfl, rfl, rfl⟩
theorem Lk.no {bs D : List Nat} {n K P S E st : Nat} (h : Lk bs D n K P S E st) (h1 : st ≠ 1) : D = [] ∧ n = 0 ∧ K = 0 ∧ P = 0 ∧ S = 0 ∧ E = 0 := by
  obtain ⟨rfl, rfl, ht, rfl⟩ := h
  unfold lkT at ht
  unfold lkD
  rw [if_neg h1] at ht ⊢
  cases ht
  exact ⟨rfl, rfl, rfl, rfl, rfl, rfl⟩
theorem Lk.yes {bs D : List Nat} {n K P S E st : Nat} (h : Lk bs D n K P S E st) (h1 : st = 1) (h8 : Bytes8 bs) : OkRead bs bs.length n D K P S E := by
  obtain ⟨rfl, rfl, ht, hst⟩ := h
  rw [h1] at hst
  obtain ⟨n, D, K', P', S', E', hok⟩ := ok_split h8 hst
  have hl := hok.hl
  have e1 : bs.length - 16 = n := by omega
  unfold lkT at ht
  rw [if_pos hst, e1] at ht
  cases ht
  have e2 : lkD bs = D := by unfold lkD; rw [if_pos hst, e1, hok.hD]
  rw [e2]
  have e3 : D.length = n := by rw [← hok.hD, List.length_take]; omega
  rw [e3]
  exact ⟨h8, hl, rfl.trans hok.hN, hok.hn1, hok.hn2, hok.hD, rfl, rfl, rfl, rfl, hst⟩
end Go.Proofs.Ytdfojhkpfbnmgaa
namespace Go.Proofs.Ytdfojhkpfbnmgaa
open Go.ChangeShapes Go.WideShapes Go.ChangeAt Go.RowKit
attribute [local go_sem ↓] Go.wp_at_zero Go.wp_at_succ
theorem tread_any (bs D : List Nat) (n K P S E st : Nat) (hk : Lk bs D n K P S E st) (N : Nat) (hN : bs.length = N) (A : Option Addr) (c : Nat) (w : World) (h1 : Sl w w.heap.size A (bs.map byteV)) (h8 : Bytes8 bs) (hc : N ≤ c) (hc2 : c ≤ maxLen) (n1 : N ≤ 1000000) :
    Calls Try.prog 71 #[.slice A N c] w fun e' w' => (∃ A' c', e' = .returned (.tuple #[.slice A' n c', .agg #[.int .i64 (K : Nat), .int .i64 (P : Nat), .int .i64 (S : Nat), .int .i64 (E : Nat)], .int .i64 (st : Nat)]) ∧ w'.ownsRow w.heap.size 5 1 (.slice A' n c') n (D.map byteV)) ∧ Below w.heap.size w w' := by
  by_cases h : st = 1
  · have hq := hk.yes h h8
    rw [hN] at hq
    refine (read_okT hq A c w h1 hc hc2).mono ?_
    rintro e' w' ⟨sv, rfl, ho, hb⟩
    subst h
    refine ⟨?_, hb⟩
    have ho := own_base ho (Nat.le_succ _)
    have ho2 := ho
    rcases ho2.2 with ⟨rfl, h0⟩ | ⟨g, cap, cur, rfl, _⟩
    · subst h0
      exact ⟨none, 0, rfl, ho⟩
    · exact ⟨_, _, rfl, ho⟩
  · obtain ⟨rfl, rfl, rfl, rfl, rfl, rfl⟩ := hk.no h
    refine (read_bad bs N hN A c w h1 h8 hc hc2 n1 st hk.st h).mono ?_
    rintro e' w' ⟨rfl, hb⟩
    exact ⟨⟨none, 0, rfl, World.ownsRow_nil _ _ _ _⟩, hb⟩
end Go.Proofs.Ytdfojhkpfbnmgaa
namespace Go.Proofs.Ytdfojhkpfbnmgaa
open Go.ChangeShapes Go.WideShapes Go.ChangeAt Go.RowKit
attribute [local go_sem ↓] Go.wp_at_zero Go.wp_at_succ
theorem blk_new {w : World} {t : TypeId} {cs : Array Value} {g : Nat} (hg : g = w.heap.size) : Blk (w.alloc (.cells cs t)) g t cs := by
  subst hg
  exact Blk.new_ _ _ _
def st6 (w : World) (g : Nat) (u0 u1 u2 u3 u4 u5 : Value) : World := (((((w.setCell ⟨g, 0, none⟩ u0).setCell ⟨g, 1, none⟩ u1).setCell ⟨g, 2, none⟩ u2).setCell ⟨g, 3, none⟩ u3).setCell ⟨g, 4, none⟩ u4).setCell ⟨g, 5, none⟩ u5
theorem st6_blk {w : World} {g : Nat} {T : TypeId} {a b c d e f : Value} (h : Blk w g T #[a, b, c, d, e, f]) (u0 u1 u2 u3 u4 u5 : Value) : Blk (st6 w g u0 u1 u2 u3 u4 u5) g T #[u0, u1, u2, u3, u4, u5] := by
  have := (((((h.set_ 0 u0).set_ 1 u1).set_ 2 u2).set_ 3 u3).set_ 4 u4).set_ 5 u5
  exact this
theorem st6_tch (w : World) (g : Nat) (u0 u1 u2 u3 u4 u5 : Value) : Tch (fun x => x = g) w (st6 w g u0 u1 u2 u3 u4 u5) :=
  (((((Tch.setm w g 0 u0).trans (Tch.setm _ g 1 u1)).trans (Tch.setm _ g 2 u2)).trans (Tch.setm _ g 3 u3)).trans (Tch.setm _ g 4 u4)).trans (Tch.setm _ g 5 u5)
theorem cells6 {w : World} {g : Nat} {T : TypeId} {a b c d e f : Value} (h : Blk w g T #[a, b, c, d, e, f]) : w.cell? ⟨g, 0, none⟩ = some a ∧ w.cell? ⟨g, 1, none⟩ = some b ∧ w.cell? ⟨g, 2, none⟩ = some c ∧ w.cell? ⟨g, 3, none⟩ = some d ∧ w.cell? ⟨g, 4, none⟩ = some e ∧ w.cell? ⟨g, 5, none⟩ = some f :=
  ⟨h.cell_ 0, h.cell_ 1, h.cell_ 2, h.cell_ 3, h.cell_ 4, h.cell_ 5⟩
structure ChN (w : World) (L : Nat) (m gx gb : Nat) (Af : Option Addr) (nf cf : Nat) (a b c d e : Int) (fs : List Flt) (s : ChS) : Prop where
  chip : ChipW w m gx gb Af nf cf a b c d e fs s
  low : ∀ g, chB m gx gb g → g < L
  lowF : fs = [] ∨ ∃ g off, Af = some ⟨g, off, none⟩ ∧ g < L
theorem ChN.far {w w' : World} {L : Nat} {m gx gb : Nat} {Af : Option Addr} {nf cf : Nat} {a b c d e : Int} {fs : List Flt} {s : ChS} (h : ChN w L m gx gb Af nf cf a b c d e fs s) {S : Nat → Prop} (hT : Tch S w w') (hs : ∀ g, S g → L ≤ g) : ChN w' L m gx gb Af nf cf a b c d e fs s := by
  have hn : ∀ g, g < L → ¬ S g := fun g hg h1 => by have := hs g h1; omega
  obtain ⟨⟨⟨cx, cb, NX, NB, hX, hN, hcx, hB⟩, r1, r2, r3, n1, n2, n3, l1, l2, l3, l4⟩, lo, lf⟩ := h
  refine ⟨⟨⟨cx, cb, NX, NB, hX, hN, hcx, (hT.far m hB.lt (hn m (lo m (Or.inl rfl)))).trans hB⟩, r1.keep (hT.far gx r1.lt (hn gx (lo gx (Or.inr (Or.inl rfl))))), r2.keep (hT.far gb r2.lt (hn gb (lo gb (Or.inr (Or.inr rfl))))), ?_, n1, n2, n3, l1, l2, l3, l4⟩, lo, lf⟩
  rcases lf with lf | ⟨g, off, e, hg⟩
  · exact Or.inl lf
  · rcases r3 with r3 | ⟨g', off', e', hlt, h1, h2, h3, hc⟩
    · exact Or.inl r3
    · rw [e] at e'
      obtain ⟨rfl, rfl⟩ : g = g' ∧ off = off' := by cases e'; exact ⟨rfl, rfl⟩
      have hq : ∀ o, w'.cell? ⟨g, o, none⟩ = w.cell? ⟨g, o, none⟩ := fun o => World.cell?_of_block (w := w) (hT.far g hlt (hn g hg))
      exact Or.inr ⟨g, off, e, by have := hT.size; omega, h1, h2, h3, fun k f hf => by rw [hq, hq, hq]; exact hc k f hf⟩
theorem ChN.next {w w' : World} {L : Nat} {m gx gb : Nat} {Af : Option Addr} {nf cf : Nat} {a b c d e : Int} {fs : List Flt} {s s' : ChS} (h : ChN w L m gx gb Af nf cf a b c d e fs s) (hC : ChipW w' m gx gb Af nf cf a b c d e fs s') : ChN w' L m gx gb Af nf cf a b c d e fs s' := ⟨hC, h.low, h.lowF⟩
theorem ChN.start {w : World} {m gx gb : Nat} {Af : Option Addr} {nf cf : Nat} {a b c d e : Int} {fs : List Flt} {s : ChS} (hC : ChipW w m gx gb Af nf cf a b c d e fs s) : ChN w w.heap.size m gx gb Af nf cf a b c d e fs s := by
  have hlt := hC.lt
  refine ⟨hC, fun g hg => ?_, ?_⟩
  · rcases hg with rfl | rfl | rfl
    · exact hlt.1
    · exact hlt.2.1
    · exact hlt.2.2
  · rcases hC.flt with h1 | ⟨g, off, e, hl, _⟩
    · exact Or.inl h1
    · exact Or.inr ⟨g, off, e, hl⟩
theorem look_no (m gx gb : Nat) (Af : Option Addr) (nf cf : Nat) (a b c d e : Int) (fs : List Flt) (x y : Int) (n0 : Int) (w : World) (s : ChS) (hC : ChipW w m gx gb Af nf cf a b c d e fs s) (hs : Fine s n0) (hn0 : n0 ≤ 900000000) (Z : Int) (S1 : ChS) (hZ : Hid (s.readZ a b x y = Z ∧ True ∧ s.readS a b x y = S1)) (hne : Z ≠ 0) : Calls Try.prog 68 #[.pointer (some ⟨m, 0, none⟩), .agg #[.int .i64 x, .int .i64 y]] w fun e' w' => e' = .returned (.tuple #[.agg #[.slice none 0 0, .int .i64 0, .int .i64 0, .int .i64 0, .int .i64 0, .int .i64 0], .int .i64 Z]) ∧ ChipW w' m gx gb Af nf cf a b c d e fs S1 ∧ Tch (chB m gx gb) w w' := by
  have hlt := hC.lt
  have HLN := ChN.start hC
  obtain ⟨W1, hW1⟩ : ∃ W : World, W = (w.alloc (.cells #[.int .i64 x, .int .i64 y] 53)).alloc (.cells #[.slice none 0 0, .int .i64 0, .int .i64 0, .int .i64 0, .int .i64 0, .int .i64 0] 99) := ⟨_, rfl⟩
  have HB1 : Below w.heap.size w W1 := by rw [hW1]; exact ((Below.refl _ _).alloc (Nat.le_refl _) _).alloc (by simp) _
  have G3 : Blk W1 w.heap.size 53 #[.int .i64 x, .int .i64 y] := by rw [hW1]; exact (Blk.new_ w _ _).alloc_ _
  have G4 : Blk W1 (w.heap.size + 1) 99 #[.slice none 0 0, .int .i64 0, .int .i64 0, .int .i64 0, .int .i64 0, .int .i64 0] := by rw [hW1]; exact blk_new (by simp)
  have hC1 := hC.below HB1
  have hr := read_allO m gx gb Af nf cf a b c d e fs x y n0 W1 s hC1 hs hn0
  have z0 := G3.cell_ 0
  have z1 := G3.cell_ 1
  simp at z0 z1
  rw [hZ.out.1, hZ.out.2.2] at hr
  obtain ⟨bq, hbq⟩ : ∃ q, s.readB a b c x y = q := ⟨_, rfl⟩
  rw [hbq] at hr
  obtain ⟨q, hq⟩ : ∃ q, bq.length = q := ⟨_, rfl⟩
  rw [hq] at hr
  have HBQ := Lib.hid (And.intro hbq hq)
  clear hq hbq
  have HW1 := Lib.hid hW1
  clear hW1
  go_enter Try.func68, Try.ntmps68
  go_upto_region 1 with fail
  rw [← HW1.out]
  have hz1 : (Z == 0) = false := by simpa using hne
  have hz2 : (Z != 0) = true := by simpa using hne
  go_wp2_with (go_at_call 25; ((with_reducible refine (hr).mono ?_); rintro e' wR ⟨⟨A1, c1, rfl, hrow⟩, hCR, hTR⟩; have hnb : ∀ g, chB m gx gb g → g < w.heap.size := fun g hg => (by rcases hg with rfl | rfl | rfl; exact hlt.1; exact hlt.2.1; exact hlt.2.2); have G4R := hTR.blk G4 (fun hc => by have := hnb _ hc; omega); obtain ⟨y0, y1, y2, y3, y4, y5⟩ := cells6 G4R; have y9 := G4R.free; have HTR := (Tch.of_below (S := chB m gx gb) HB1).trans hTR))
  obtain ⟨wz, hwz⟩ : ∃ V : World, V = st6 wR (w.heap.size + 1) (.slice none 0 0) (.int .i64 0) (.int .i64 0) (.int .i64 0) (.int .i64 0) (.int .i64 0) := ⟨_, rfl⟩
  have HZ := st6_blk G4R (.slice none 0 0) (.int .i64 0) (.int .i64 0) (.int .i64 0) (.int .i64 0) (.int .i64 0)
  have TZ := st6_tch wR (w.heap.size + 1) (.slice none 0 0) (.int .i64 0) (.int .i64 0) (.int .i64 0) (.int .i64 0) (.int .i64 0)
  rw [← hwz] at HZ TZ
  show bodyPost _ _ _ _ _ (st6 wR (w.heap.size + 1) (.slice none 0 0) (.int .i64 0) (.int .i64 0) (.int .i64 0) (.int .i64 0) (.int .i64 0))
  rw [← hwz]
  have hCZ := ((HLN.next hCR).far TZ (fun g hg => by subst hg; omega)).chip
  have hTZ : Tch (chB m gx gb) w wz := ((HTR.mono (S' := fun g => chB m gx gb g ∨ w.heap.size ≤ g) (fun g hg => Or.inl hg)).trans (TZ.mono (fun g hg => by subst hg; exact Or.inr (Nat.le_succ _)))).monoL (fun g hg h => by rcases h with h | h; exact h; omega)
  obtain ⟨x0, x1, x2, x3, x4, x5⟩ := cells6 HZ
  refine bodyPost_ret (v := .tuple #[.agg #[.slice none 0 0, .int .i64 0, .int .i64 0, .int .i64 0, .int .i64 0, .int .i64 0], .int .i64 Z]) (by simp [results, Try.results68, go_sem, x0, x1, x2, x3, x4, x5]) rfl ⟨rfl, ?_, ?_⟩
  · exact hCZ
  · exact hTZ
theorem own_keepT {w w' : World} {base n size g : Nat} {e : TypeId} {v : Value} {xs : List Value} (h : w.ownsRow base e size v n xs) (hT : Tch (fun x => x = g) w w') (hg : g < base) : w'.ownsRow base e size v n xs := by
  obtain ⟨h1, h2⟩ := h
  refine ⟨h1, ?_⟩
  rcases h2 with h2 | ⟨g', cap, cur, rfl, hb, hh, hr⟩
  · exact Or.inl h2
  · have hlt : g' < w.heap.size := by
      rcases Nat.lt_or_ge g' w.heap.size with hx | hx
      · exact hx
      · rw [Array.getElem?_eq_none hx] at hh
        cases hh
    exact Or.inr ⟨g', cap, cur, rfl, hb, (hT.far g' hlt (by omega)).trans hh, hr⟩
theorem row_cap {w : World} {B q c1 : Nat} {A1 : Option Addr} {bs : List Nat} (hq : bs.length = q) (h : bs = [] ∧ A1 = none ∧ c1 = 0 ∨ ∃ g, A1 = some ⟨g, 0, none⟩ ∧ RowT w g 5 (bs.map byteV) ∧ B ≤ g ∧ w.ownsRow B 5 1 (.slice (some ⟨g, 0, none⟩) q c1) q (bs.map byteV)) : w.ownsRow B 5 1 (.slice A1 q c1) q (bs.map byteV) ∧ q ≤ c1 ∧ c1 ≤ maxLen := by
  rcases h with ⟨rfl, rfl, rfl⟩ | ⟨g, rfl, _, _, ho⟩
  · subst hq
    exact ⟨World.ownsRow_nil _ _ _ _, Nat.le_refl _, Nat.zero_le _⟩
  · have ho2 := ho
    rcases ho2.2 with ⟨h1, _⟩ | ⟨g', cap, cur, h1, h2, h3, h4, h5, _⟩
    · cases h1
    · cases h1
      exact ⟨ho, h4, h5⟩
theorem look_yes (m gx gb : Nat) (Af : Option Addr) (nf cf : Nat) (a b c d e : Int) (fs : List Flt) (x y : Int) (n0 : Int) (w : World) (s : ChS) (hC : ChipW w m gx gb Af nf cf a b c d e fs s) (hs : Fine s n0) (hn0 : n0 ≤ 900000000) (D : List Nat) (n K P S E st : Nat) (S1 : ChS) (bs : List Nat) (h8 : Bytes8 bs) (hl : bs.length ≤ 1000000) (hZ : Hid (s.readZ a b x y = 0 ∧ s.readB a b c x y = bs ∧ s.readS a b x y = S1)) (hk : Hid (Lk bs D n K P S E st)) : Calls Try.prog 68 #[.pointer (some ⟨m, 0, none⟩), .agg #[.int .i64 x, .int .i64 y]] w fun e' w' => (∃ A' c', e' = .returned (.tuple #[.agg #[.slice A' n c', .int .i64 (K : Nat), .int .i64 (P : Nat), .int .i64 (S : Nat), .int .i64 (E : Nat), .int .i64 (st : Nat)], .int .i64 0]) ∧ w'.ownsRow w.heap.size 5 1 (.slice A' n c') n (D.map byteV)) ∧ ChipW w' m gx gb Af nf cf a b c d e fs S1 ∧ Tch (chB m gx gb) w w' := by
  have hlt := hC.lt
  have HLN := ChN.start hC
  obtain ⟨W1, hW1⟩ : ∃ W : World, W = (w.alloc (.cells #[.int .i64 x, .int .i64 y] 53)).alloc (.cells #[.slice none 0 0, .int .i64 0, .int .i64 0, .int .i64 0, .int .i64 0, .int .i64 0] 99) := ⟨_, rfl⟩
  have HB1 : Below w.heap.size w W1 := by rw [hW1]; exact ((Below.refl _ _).alloc (Nat.le_refl _) _).alloc (by simp) _
  have G3 : Blk W1 w.heap.size 53 #[.int .i64 x, .int .i64 y] := by rw [hW1]; exact (Blk.new_ w _ _).alloc_ _
  have G4 : Blk W1 (w.heap.size + 1) 99 #[.slice none 0 0, .int .i64 0, .int .i64 0, .int .i64 0, .int .i64 0, .int .i64 0] := by rw [hW1]; exact blk_new (by simp)
  have hC1 := hC.below HB1
  have hr := read_allO m gx gb Af nf cf a b c d e fs x y n0 W1 s hC1 hs hn0
  have z0 := G3.cell_ 0
  have z1 := G3.cell_ 1
  simp at z0 z1
  rw [hZ.out.1, hZ.out.2.1, hZ.out.2.2] at hr
  obtain ⟨q, hq⟩ : ∃ q, bs.length = q := ⟨_, rfl⟩
  rw [hq] at hr
  have HQ := Lib.hid hq
  have hq9 : q ≤ 1000000 := by omega
  clear hq
  have HW1 := Lib.hid hW1
  clear hW1
  go_enter Try.func68, Try.ntmps68
  go_upto_region 1 with fail
  rw [← HW1.out]
  go_wp2_with (first | (go_at_call 25; ((with_reducible refine (hr).mono ?_); rintro e' wR ⟨⟨A1, c1, rfl, hrow⟩, hCR, hTR⟩; have hnb : ∀ g, chB m gx gb g → g < w.heap.size := fun g hg => (by rcases hg with rfl | rfl | rfl; exact hlt.1; exact hlt.2.1; exact hlt.2.2); have G4R := hTR.blk G4 (fun hc => by have := hnb _ hc; omega); obtain ⟨y0, y1, y2, y3, y4, y5⟩ := cells6 G4R; have y9 := G4R.free; have HTR := (Tch.of_below (S := chB m gx gb) HB1).trans hTR; obtain ⟨hoR, hcc1, hcc2⟩ : wR.ownsRow W1.heap.size 5 1 (.slice A1 q c1) q (bs.map byteV) ∧ q ≤ c1 ∧ c1 ≤ maxLen := row_cap HQ.out hrow; have hsR := Sl.of_own hoR; clear hrow)) | (go_at_call 71; ((with_reducible refine (tread_any bs D n K P S E st hk.out q HQ.out A1 c1 wR hsR h8 hcc1 hcc2 hq9).mono ?_); rintro e' wT ⟨⟨A2, c2, rfl, hoT⟩, hbT⟩; have hszR := hTR.size; have HG := G4.lt; have G4T := G4R.below hbT G4R.lt; have HTT := HTR.then hbT; have hCT := hCR.below hbT; have G4X := G4T.alloc_ (.cells #[.int .i64 (K : Nat), .int .i64 (P : Nat), .int .i64 (S : Nat), .int .i64 (E : Nat)] 50); have HTX := HTT.then ((Below.refl _ _).alloc (Nat.le_refl _) (.cells #[.int .i64 (K : Nat), .int .i64 (P : Nat), .int .i64 (S : Nat), .int .i64 (E : Nat)] 50)); have hCX := hCT.below ((Below.refl _ _).alloc (Nat.le_refl _) (.cells #[.int .i64 (K : Nat), .int .i64 (P : Nat), .int .i64 (S : Nat), .int .i64 (E : Nat)] 50)); have hoX := hoT.alloc (.cells #[.int .i64 (K : Nat), .int .i64 (P : Nat), .int .i64 (S : Nat), .int .i64 (E : Nat)] 50); obtain ⟨y0, y1, y2, y3, y4, y5⟩ := cells6 G4X; have y9 := G4X.free)))
  obtain ⟨wz, hwz⟩ : ∃ V : World, V = st6 (wT.alloc (.cells #[.int .i64 (K : Nat), .int .i64 (P : Nat), .int .i64 (S : Nat), .int .i64 (E : Nat)] 50)) (w.heap.size + 1) (.slice A2 n c2) (.int .i64 (K : Nat)) (.int .i64 (P : Nat)) (.int .i64 (S : Nat)) (.int .i64 (E : Nat)) (.int .i64 (st : Nat)) := ⟨_, rfl⟩
  have HZ := st6_blk G4X (.slice A2 n c2) (.int .i64 (K : Nat)) (.int .i64 (P : Nat)) (.int .i64 (S : Nat)) (.int .i64 (E : Nat)) (.int .i64 (st : Nat))
  have TZ := st6_tch (wT.alloc (.cells #[.int .i64 (K : Nat), .int .i64 (P : Nat), .int .i64 (S : Nat), .int .i64 (E : Nat)] 50)) (w.heap.size + 1) (.slice A2 n c2) (.int .i64 (K : Nat)) (.int .i64 (P : Nat)) (.int .i64 (S : Nat)) (.int .i64 (E : Nat)) (.int .i64 (st : Nat))
  rw [← hwz] at HZ TZ
  show bodyPost _ _ _ _ _ (st6 (wT.alloc (.cells #[.int .i64 (K : Nat), .int .i64 (P : Nat), .int .i64 (S : Nat), .int .i64 (E : Nat)] 50)) (w.heap.size + 1) (.slice A2 n c2) (.int .i64 (K : Nat)) (.int .i64 (P : Nat)) (.int .i64 (S : Nat)) (.int .i64 (E : Nat)) (.int .i64 (st : Nat)))
  rw [← hwz]
  have hCZ := ((HLN.next hCX).far TZ (fun g hg => by subst hg; omega)).chip
  have hTZ : Tch (chB m gx gb) w wz := ((HTX.mono (S' := fun g => chB m gx gb g ∨ w.heap.size ≤ g) (fun g hg => Or.inl hg)).trans (TZ.mono (fun g hg => by subst hg; exact Or.inr (Nat.le_succ _)))).monoL (fun g hg h => by rcases h with h | h; exact h; omega)
  obtain ⟨x0, x1, x2, x3, x4, x5⟩ := cells6 HZ
  refine bodyPost_ret (v := .tuple #[.agg #[.slice A2 n c2, .int .i64 (K : Nat), .int .i64 (P : Nat), .int .i64 (S : Nat), .int .i64 (E : Nat), .int .i64 (st : Nat)], .int .i64 0]) (by simp [results, Try.results68, go_sem, x0, x1, x2, x3, x4, x5]) rfl ⟨⟨_, _, rfl, ?_⟩, ?_, ?_⟩
  · exact own_base (own_keepT hoX TZ (by have := G4R.lt; omega)) (by have := G4R.lt; omega)
  · exact hCZ
  · exact hTZ
end Go.Proofs.Ytdfojhkpfbnmgaa
namespace Go.Proofs.Ytdfojhkpfbnmgaa
structure Fd where
  b : Int
  g : Int
  k : Int
  p : Int
  s : Int
  e : Int
def lastS (n : Int) (f : Fd) : Int := if f.k = 3 then max n f.e else n
def lastZ (fs : List Fd) : Int := fs.foldl lastS 0
def newer (a b : Fd) : Bool := if a.e = b.e then decide (b.s < a.s) else decide (b.e < a.e)
def counts (last : Int) (f : Fd) : Bool := (decide (f.k = 1) || decide (f.k = 2)) && decide (f.e ≤ last)
def stepN (last p : Int) (o : Option Fd) (f : Fd) : Option Fd :=
  if counts last f = true ∧ f.p = p then
    match o with
    | none => some f
    | some x => if newer f x = true then some f else some x
  else o
def newestZ (last : Int) (fs : List Fd) (p : Int) : Option Fd := fs.foldl (stepN last p) none
def staleZ (fs : List Fd) : List Fd := fs.filter (fun f => decide (lastZ fs < f.e))
def IsAll (fs L : List Fd) : Prop := L.Pairwise (fun x y => x.p < y.p) ∧ ∀ x, x ∈ L ↔ (newestZ (lastZ fs) fs x.p = some x ∧ x.k = 1)
/-! ### last -/
/-! ### newer -/
/-! ### newest -/
def Cand (last p : Int) (x : Fd) : Prop := counts last x = true ∧ x.p = p
/-! ### all -/
theorem sorted_unique : ∀ (a b : List Fd), a.Pairwise (fun x y => x.p < y.p) → b.Pairwise (fun x y => x.p < y.p) → (∀ x, x ∈ a ↔ x ∈ b) → a = b
  | [], [], _, _, _ => rfl
  | [], y :: b, _, _, h => by have := (h y).2 (by simp); simp at this
  | x :: a, [], _, _, h => by have := (h x).1 (by simp); simp at this
  | x :: a, y :: b, ha, hb, h => by
    obtain ⟨ha1, ha2⟩ := List.pairwise_cons.1 ha
    obtain ⟨hb1, hb2⟩ := List.pairwise_cons.1 hb
    have exy : x = y := by
      rcases List.mem_cons.1 ((h x).1 (by simp)) with e | e
      · exact e
      · rcases List.mem_cons.1 ((h y).2 (by simp)) with e2 | e2
        · exact e2.symm
        · have := hb1 x e
          have := ha1 y e2
          omega
    subst exy
    congr 1
    refine sorted_unique a b ha2 hb2 (fun z => ?_)
    constructor
    · intro hz
      rcases List.mem_cons.1 ((h z).1 (by simp [hz])) with e | e
      · subst e
        have := ha1 z hz
        omega
      · exact e
    · intro hz
      rcases List.mem_cons.1 ((h z).2 (by simp [hz])) with e | e
      · subst e
        have := hb1 z hz
        omega
      · exact e
theorem IsAll.congr {fs gs a b : List Fd} (ha : IsAll fs a) (hb : IsAll gs b) (h : ∀ p, newestZ (lastZ fs) fs p = newestZ (lastZ gs) gs p) : a = b :=
  sorted_unique a b ha.1 hb.1 (fun x => by rw [ha.2 x, hb.2 x, h x.p])
/-! ### the laws -/
def lastOf (p : Int) (o : Option Fd) (f : Fd) : Option Fd := if f.p = p then some f else o
end Go.Proofs.Ytdfojhkpfbnmgaa
namespace Go.Proofs.Ytdfojhkpfbnmgaa
open Go.ChangeShapes Go.WideShapes Go.ChangeAt Go.RowKit Go.Deep
def LeafOk : Option IntKind → Value → Prop
  | some k, v => ∃ z, v = .int k z ∧ (Lit.int k z).wf = true
  | none, v => ∃ b, v = .bool b
def Flat : List (Option IntKind) → List Value → Prop
  | [], cs => cs = []
  | l :: ls, cs => ∃ v r, cs = v :: r ∧ LeafOk l v ∧ Flat ls r
theorem Flat.append : ∀ {ls ms : List (Option IntKind)} {cs ds : List Value}, Flat ls cs → Flat ms ds → Flat (ls ++ ms) (cs ++ ds)
  | [], _, cs, ds, h, k => by
    obtain rfl : cs = [] := h
    exact k
  | _ :: ls, _, _, _, h, k => by
    obtain ⟨v, r, rfl, h1, h2⟩ := h
    exact ⟨v, r ++ _, rfl, h1, h2.append k⟩
theorem Flat.length : ∀ {ls : List (Option IntKind)} {cs : List Value}, Flat ls cs → cs.length = ls.length
  | [], cs, h => by
    obtain rfl : cs = [] := h
    rfl
  | _ :: ls, _, h => by
    obtain ⟨v, r, rfl, _, h2⟩ := h
    simp [h2.length]
def flatFields (P : Program) (sh : TypeId → Option (List (Option IntKind))) : List Field → Nat → Option (List (Option IntKind))
  | [], _ => some []
  | f :: fs, o =>
    if f.offset = o then
      match sh f.type with
      | some l => if P.cellsOf f.type = l.length then
          match flatFields P sh fs (o + l.length) with
          | some r => some (l ++ r)
          | none => none
        else none
      | none => none
    else none
def flatShape (P : Program) : Nat → TypeId → Option (List (Option IntKind))
  | 0, _ => none
  | n + 1, t => match P.underlying t with
    | some (.int k) => some [some k]
    | some .bool => some [none]
    | some (.struct fs) => match flatFields P (flatShape P n) fs.toList 0 with
      | some l => if P.cellsOf t = l.length then some l else none
      | none => none
    | _ => none
section
variable {H : Type} {enc : TypeId × Value → H} {P : Program} {w : World} {base : Nat} {spare : Nat → Bool} {held : Bool}
end
def SlE (C : Nat) (w : World) (B : Nat) (A : Option Addr) (es : List (List Value)) : Prop :=
  es = [] ∨ ∃ b off, A = some ⟨b, off, none⟩ ∧ b < B ∧ ∀ k x, es[k]? = some x → ∀ j u, x[j]? = some u → w.cell? ⟨b, off + k * C + j, none⟩ = some u
theorem SlE.at_ {C : Nat} {w : World} {B : Nat} {A : Option Addr} {es : List (List Value)} (h : SlE C w B A es) (hn : 0 < es.length) :
    ∃ b off, A = some ⟨b, off, none⟩ ∧ b < B ∧ ∀ k x, es[k]? = some x → ∀ j u, x[j]? = some u → w.cell? ⟨b, off + k * C + j, none⟩ = some u := by
  rcases h with rfl | h
  · simp at hn
  · exact h
theorem SlE.below {C : Nat} {w w' : World} {B : Nat} {A : Option Addr} {es : List (List Value)} (h : SlE C w B A es) (hb : Below B w w') : SlE C w' B A es := by
  rcases h with h | ⟨b, off, e, hlt, hc⟩
  · exact Or.inl h
  · exact Or.inr ⟨b, off, e, hlt, fun k x hx j u hu => (hb.cell (p := ⟨b, _, none⟩) hlt).trans (hc k x hx j u hu)⟩
theorem SlE.mono {C : Nat} {w : World} {B B' : Nat} {A : Option Addr} {es : List (List Value)} (h : SlE C w B A es) (hB : B ≤ B') : SlE C w B' A es := by
  rcases h with h | ⟨b, off, e, hlt, hc⟩
  · exact Or.inl h
  · exact Or.inr ⟨b, off, e, by omega, hc⟩
theorem SlE.next {C : Nat} {w w' : World} {A : Option Addr} {es : List (List Value)} (h : SlE C w w.heap.size A es) (hb : Below w.heap.size w w') : SlE C w' w'.heap.size A es := (h.below hb).mono hb.size
section
variable {H : Type} {enc : TypeId × Value → H} {P : Program} {w : World} {base : Nat} {spare : Nat → Bool} {held : Bool}
def eltOf (w : World) (b off C i : Nat) : List Value := (List.range C).map fun j => (w.cell? ⟨b, off + i * C + j, none⟩).getD undef
end
theorem Flat.int {k : IntKind} {ls : List (Option IntKind)} {cs : List Value} (h : Flat (some k :: ls) cs) : ∃ z r, cs = .int k z :: r ∧ (Lit.int k z).wf = true ∧ Flat ls r := by
  obtain ⟨v, r, rfl, ⟨z, rfl, hw⟩, h2⟩ := h
  exact ⟨z, r, rfl, hw, h2⟩
theorem Flat.bool {ls : List (Option IntKind)} {cs : List Value} (h : Flat (none :: ls) cs) : ∃ z r, cs = .bool z :: r ∧ Flat ls r := by
  obtain ⟨v, r, rfl, ⟨z, rfl⟩, h2⟩ := h
  exact ⟨z, r, rfl, h2⟩
theorem Flat.nil {cs : List Value} (h : Flat [] cs) : cs = [] := h
end Go.Proofs.Ytdfojhkpfbnmgaa
namespace Go.Proofs.Ytdfojhkpfbnmgaa
open Go.ChangeShapes Go.WideShapes Go.ChangeAt Go.RowKit
def iOf : Value → Int
  | .int _ q => q
  | _ => 0
def fCs (x : Fd) : List Value := [.int .i64 x.b, .int .i64 x.g, .int .i64 x.k, .int .i64 x.p, .int .i64 x.s, .int .i64 x.e]
def FdOk (x : Fd) : Prop := i64in x.b ∧ i64in x.g ∧ i64in x.k ∧ i64in x.p ∧ i64in x.s ∧ i64in x.e
def SlFd (w : World) (B : Nat) (A : Option Addr) (fs : List Fd) : Prop := SlE 6 w B A (fs.map fCs)
theorem SlFd.next {w w' : World} {A : Option Addr} {fs : List Fd} (h : SlFd w w.heap.size A fs) (hb : Below w.heap.size w w') : SlFd w' w'.heap.size A fs := SlE.next h hb
theorem SlFd.below {w w' : World} {B : Nat} {A : Option Addr} {fs : List Fd} (h : SlFd w B A fs) (hb : Below B w w') : SlFd w' B A fs := SlE.below h hb
theorem SlFd.mono {w : World} {B B' : Nat} {A : Option Addr} {fs : List Fd} (h : SlFd w B A fs) (hB : B ≤ B') : SlFd w B' A fs := SlE.mono h hB
theorem SlFd.nil_ {w : World} {B : Nat} {A : Option Addr} : SlFd w B A [] := Or.inl rfl
theorem SlFd.at_ {w : World} {B : Nat} {A : Option Addr} {fs : List Fd} (h : SlFd w B A fs) (hn : 0 < fs.length) :
    ∃ b off, A = some ⟨b, off, none⟩ ∧ b < B ∧ ∀ (k : Nat) (x : Fd), fs[k]? = some x →
      w.cell? ⟨b, off + k * 6, none⟩ = some (.int .i64 x.b) ∧ w.cell? ⟨b, off + k * 6 + 1, none⟩ = some (.int .i64 x.g) ∧ w.cell? ⟨b, off + k * 6 + 2, none⟩ = some (.int .i64 x.k) ∧ w.cell? ⟨b, off + k * 6 + 3, none⟩ = some (.int .i64 x.p) ∧ w.cell? ⟨b, off + k * 6 + 4, none⟩ = some (.int .i64 x.s) ∧ w.cell? ⟨b, off + k * 6 + 5, none⟩ = some (.int .i64 x.e) := by
  obtain ⟨b, off, e, hb, hc⟩ := SlE.at_ h (by simpa using hn)
  refine ⟨b, off, e, hb, fun k x hk => ?_⟩
  have hx : (fs.map fCs)[k]? = some (fCs x) := by simp [hk]
  exact ⟨hc k _ hx 0 _ rfl, hc k _ hx 1 _ rfl, hc k _ hx 2 _ rfl, hc k _ hx 3 _ rfl, hc k _ hx 4 _ rfl, hc k _ hx 5 _ rfl⟩
theorem flat_get : ∀ (L : List Fd) (k j : Nat) (x : Fd), L[k]? = some x → j < 6 → (L.flatMap fCs)[k * 6 + j]? = (fCs x)[j]?
  | y :: L, 0, j, x, h, hj => by
    simp at h
    subst h
    rw [List.flatMap_cons, List.getElem?_append_left (by simp [fCs]; omega)]
    simp
  | y :: L, k + 1, j, x, h, hj => by
    rw [List.flatMap_cons, List.getElem?_append_right (by simp [fCs]; omega), show (k + 1) * 6 + j - (fCs y).length = k * 6 + j by simp [fCs]; omega]
    exact flat_get L k j x (by simpa using h) hj
theorem flat_one1 (x : Fd) : ∀ u ∈ fCs x, u.oneCell' = true := by
  intro u hu
  simp [fCs] at hu
  rcases hu with rfl | rfl | rfl | rfl | rfl | rfl <;> rfl
def RowFd (w : World) (base : Nat) (v : Value) (L : List Fd) : Prop := w.ownsRow base 101 6 v L.length (L.flatMap fCs)
theorem RowFd.nil_ (w : World) (base : Nat) : RowFd w base (.slice none 0 0) [] := World.ownsRow_nil w base _ _
theorem RowFd.below {w w' : World} {base : Nat} {v : Value} {L : List Fd} (h : RowFd w base v L) (hb : Below w.heap.size w w') : RowFd w' base v L :=
  World.ownsRow.kept h (row := none) ⟨hb.os, hb.tape, hb.output, hb.size, fun k hk _ => hb.block k hk⟩ (by cases v.ownBlock <;> simp)
theorem RowFd.base {w : World} {B B' : Nat} {v : Value} {L : List Fd} (h : RowFd w B v L) (hB : B' ≤ B) : RowFd w B' v L := by
  obtain ⟨h1, h2⟩ := h
  refine ⟨h1, ?_⟩
  rcases h2 with h2 | ⟨g, cap, cur, hv, hb, h⟩
  · exact Or.inl h2
  · exact Or.inr ⟨g, cap, cur, hv, by omega, h⟩
theorem RowFd.sl {w : World} {base : Nat} {v : Value} {L : List Fd} (h : RowFd w base v L) : ∃ A c, v = .slice A L.length c ∧ SlFd w w.heap.size A L ∧ L.length ≤ c ∧ c ≤ maxLen := by
  obtain ⟨hl, h2⟩ := h
  rcases h2 with ⟨rfl, h0⟩ | ⟨g, cap, cur, hv, hb, hh, hnc, hcm, hsz, ht⟩
  · obtain rfl := List.eq_nil_of_length_eq_zero h0
    exact ⟨none, 0, rfl, SlFd.nil_, Nat.le_refl _, by unfold maxLen; omega⟩
  · refine ⟨_, cap, hv, Or.inr ⟨g, 0, rfl, ?_, fun k x hx j u hu => ?_⟩, hnc, hcm⟩
    · rcases Nat.lt_or_ge g w.heap.size with hx | hx
      · exact hx
      · rw [Array.getElem?_eq_none hx] at hh
        cases hh
    · rw [List.getElem?_map] at hx
      obtain ⟨y, hy, rfl⟩ := Option.map_eq_some_iff.1 hx
      have hj : j < 6 := (List.getElem?_eq_some_iff.1 hu).1
      have hk : k < L.length := (List.getElem?_eq_some_iff.1 hy).1
      have e := flat_get L k j y hy hj
      rw [hu, ← ht, List.getElem?_take_of_lt (by omega)] at e
      rw [Joins.cell_of_block hh, Nat.zero_add]
      simpa using e
def newerZ (e s e' s' : Int) : Bool := if e = e' then decide (s' < s) else decide (e' < e)
end Go.Proofs.Ytdfojhkpfbnmgaa
namespace Go.Proofs.Ytdfojhkpfbnmgaa
open Go.ChangeShapes Go.WideShapes Go.ChangeAt Go.RowKit
attribute [local go_sem ↓] Go.wp_at_zero Go.wp_at_succ
theorem RowFd.snoc {w : World} {base : Nat} {v : Value} {L : List Fd} {x : Fd} (h : w.ownsRow base 101 6 v (L.length + 1) (L.flatMap fCs ++ fCs x)) : RowFd w base v (L ++ [x]) := by
  unfold RowFd
  rw [List.length_append, List.flatMap_append]
  simpa using h
end Go.Proofs.Ytdfojhkpfbnmgaa
namespace Go.Proofs.Ytdfojhkpfbnmgaa
open Go.ChangeShapes Go.WideShapes Go.ChangeAt Go.RowKit
attribute [local go_sem ↓] Go.wp_at_zero Go.wp_at_succ
structure Cap (w : World) (gs base : Nat) (L : List Fd) : Prop where
  blk : ∃ v, Blk w gs 76 #[v] ∧ RowFd w base v L
  lt : gs < base
theorem infoFdS : (Try.prog.info? 101).map (fun i => (i.zero, i.size, i.bytes)) = some (some (.agg #[.int .i64 0, .int .i64 0, .int .i64 0, .int .i64 0, .int .i64 0, .int .i64 0]), 6, 48) := by kernel_rfl
@[go_sem] theorem build_fd (x y K P S E : Int) (w : World) : (Instr.buildSlice 76 1 #[(0, (.agg #[.int .i64 x, .int .i64 y, .int .i64 K, .int .i64 P, .int .i64 S, .int .i64 E]))]).run Try.prog w = .ok (.slice (some ⟨w.heap.size, 0, none⟩) 1 1) (w.alloc (.cells #[.int .i64 x, .int .i64 y, .int .i64 K, .int .i64 P, .int .i64 S, .int .i64 E] 101)) := by kernel_rfl
theorem rd_newF (w : World) (x y K P S E : Int) {g : Nat} (hg : g = w.heap.size) : Rd (w.alloc (.cells #[.int .i64 x, .int .i64 y, .int .i64 K, .int .i64 P, .int .i64 S, .int .i64 E] 101)) (some ⟨g, 0, none⟩) 1 6 (fCs (⟨x, y, K, P, S, E⟩ : Fd)) := by
  subst hg
  refine ⟨rfl, Or.inr ⟨_, 0, rfl, fun j u hj => ?_⟩⟩
  rw [Joins.cell_of_block (heap_alloc_new w _), Nat.zero_add]
  simpa [fCs] using hj
theorem cap_grown {wN w2 : World} {gs base : Nat} {v v2 : Value} {L : List Fd} {x : Fd} (hB : Blk wN gs 76 #[v]) (hR : RowFd wN base v L) (hlt : gs < base) (hb : base ≤ wN.heap.size) (ho : w2.ownsRow base 101 6 v2 (L.length + 1) (L.flatMap fCs ++ fCs x)) (hg : wN.grownBy w2 v.ownBlock) :
    Blk w2 gs 76 #[v] ∧ ∃ wz, wz = w2.setCell ⟨gs, 0, none⟩ v2 ∧ Cap wz gs base (L ++ [x]) ∧ Tch (fun g => g = gs ∨ base ≤ g) wN wz := by
  have hat : ∀ g, v.ownBlock = some g → base ≤ g := fun g hg => by
    obtain ⟨_, h⟩ := hR
    rcases h with ⟨rfl, _⟩ | ⟨g', cap, cur, rfl, hbb, _⟩
    · simp [Value.ownBlock] at hg
    · simp [Value.ownBlock] at hg
      omega
  have hB2 : Blk w2 gs 76 #[v] := (hg.block gs hB.lt (fun he => by have := hat gs he.symm; omega)).trans hB
  have hR2 : RowFd w2 base v2 (L ++ [x]) := RowFd.snoc ho
  have hat2 : ∀ g, v2.ownBlock = some g → base ≤ g := fun g hg => by
    obtain ⟨_, h⟩ := hR2
    rcases h with ⟨rfl, _⟩ | ⟨g', cap, cur, rfl, hbb, _⟩
    · simp [Value.ownBlock] at hg
    · simp [Value.ownBlock] at hg
      omega
  refine ⟨hB2, _, rfl, ⟨⟨v2, hB2.set_ 0 v2, ?_⟩, hlt⟩, ?_⟩
  · obtain ⟨h1, h2⟩ := hR2
    refine ⟨h1, ?_⟩
    rcases h2 with h2 | ⟨g', cap, cur, rfl, hbb, hh, hr⟩
    · exact Or.inl h2
    · exact Or.inr ⟨g', cap, cur, rfl, hbb, (Below.heap_setCell w2 ⟨gs, 0, none⟩ _ g' (by show g' ≠ gs; omega)).trans hh, hr⟩
  · exact (Tch.grown hg (fun k hk => Or.inr (hat k hk))).trans (Tch.set w2 ⟨gs, 0, none⟩ v2 (Or.inl rfl))
theorem scan1_any (x y K P S E st : Int) (A : Option Addr) (n c' gs base : Nat) (L : List Fd) (w : World) (hC : Cap w gs base L) (hb : base ≤ w.heap.size) (hL : L.length ≤ 1000000) :
    Calls Try.prog 63 #[.agg #[.int .i64 x, .int .i64 y], .agg #[.slice A n c', .int .i64 K, .int .i64 P, .int .i64 S, .int .i64 E, .int .i64 st], .pointer (some ⟨gs, 0, none⟩)] w fun e' w' => e' = .returned (.tuple #[]) ∧ Cap w' gs base (if st = 1 then L ++ [(⟨x, y, K, P, S, E⟩ : Fd)] else L) ∧ Tch (fun g => g = gs ∨ base ≤ g) w w' := by
  obtain ⟨⟨v, hB, hR⟩, hlt⟩ := hC
  obtain ⟨A2, c2, rfl, _, hc2, hc3⟩ := hR.sl
  by_cases h1 : st = 1
  · subst h1
    rw [if_pos rfl]
    have HB6 : Below w.heap.size w ((w.alloc (.cells #[.int .i64 x, .int .i64 y] 53)).alloc (.cells #[.slice A n c', .int .i64 K, .int .i64 P, .int .i64 S, .int .i64 E, .int .i64 1] 99)) := ((Below.refl _ _).alloc (Nat.le_refl _) _).alloc (by simp) _
    have hB6 := hB.below HB6 hB.lt
    have hR6 := RowFd.below hR HB6
    have z0 : ((w.alloc (.cells #[.int .i64 x, .int .i64 y] 53)).alloc (.cells #[.slice A n c', .int .i64 K, .int .i64 P, .int .i64 S, .int .i64 E, .int .i64 1] 99)).cell? ⟨gs, 0, none⟩ = some (.slice A2 L.length c2) := hB6.cell_ 0
    go_enter Try.func63, Try.ntmps63
    go_wp2_with (at_builtin; obtain ⟨ti0, hi, hz0, hz1, hz2⟩ := info_parts infoFdS; refine wpList_app _ rfl (.tmp 8) (.tmp 13) 76 rfl base 101 ti0 _ 6 48 Try.underlying76 hi hz0 hz1 hz2 rfl (by decide) (.slice A2 L.length c2) L.length (L.flatMap fCs) rfl (hR6.alloc _) _ 1 1 (fCs (⟨x, y, K, P, S, E⟩ : Fd)) rfl (rd_newF _ _ _ _ _ _ _ (by simp)) (flat_one1 _) (by unfold maxLen; omega) (by omega) (by simp; omega) ?_; intro v2 w2 ho2 hg2 hv2; obtain ⟨HX2, wz, hwz, HCZ, HTZ⟩ := cap_grown (hB6.alloc_ _) (RowFd.below hR6 ((Below.refl _ _).alloc (Nat.le_refl _) _)) hlt (by simp; omega) ho2 hg2; have x2 := HX2.cell_ 0; simp at x2; have x9 := HX2.free; have HWZ := Lib.hid hwz; have HT6 := (Tch.of_below (S := fun g => g = gs ∨ base ≤ g) (HB6.alloc HB6.size _)).trans HTZ; obtain ⟨A8, c8, hv8, _, _, _⟩ := (show RowFd w2 base v2 (L ++ [(⟨x, y, K, P, S, E⟩ : Fd)]) from RowFd.snoc ho2).sl; obtain ⟨m8, hm8⟩ : ∃ m, (L ++ [(⟨x, y, K, P, S, E⟩ : Fd)]).length = m := ⟨_, rfl⟩; rw [hm8] at hv8; subst hv8; clear hwz hm8 HTZ ho2 hg2 hv2 hi hz0 hz1 hz2)
    rw [← HWZ.out]
    exact bodyPost_end (v := .tuple #[]) (by simp [results, Try.results63, go_sem]) rfl ⟨rfl, HCZ, HT6⟩
  · rw [if_neg h1]
    have h2 : (st == 1) = false := by simpa using h1
    have HB6 : Below w.heap.size w ((w.alloc (.cells #[.int .i64 x, .int .i64 y] 53)).alloc (.cells #[.slice A n c', .int .i64 K, .int .i64 P, .int .i64 S, .int .i64 E, .int .i64 st] 99)) := ((Below.refl _ _).alloc (Nat.le_refl _) _).alloc (by simp) _
    have hB6 := hB.below HB6 hB.lt
    have hR6 := RowFd.below hR HB6
    go_enter Try.func63, Try.ntmps63
    go_wp2
    exact bodyPost_end (v := .tuple #[]) (by simp [results, Try.results63, go_sem]) rfl ⟨rfl, ⟨⟨_, hB6, hR6⟩, hlt⟩, Tch.of_below HB6⟩
end Go.Proofs.Ytdfojhkpfbnmgaa
namespace Go.Proofs.Ytdfojhkpfbnmgaa
open Go.ChangeShapes Go.WideShapes Go.ChangeAt Go.RowKit
attribute [local go_sem ↓] Go.wp_at_zero Go.wp_at_succ
structure Cnt (w : World) (ga gb gc : Nat) (p q r : Nat) : Prop where
  a : Blk w ga 3 #[.int .i64 (p : Int)]
  b : Blk w gb 3 #[.int .i64 (q : Int)]
  c : Blk w gc 3 #[.int .i64 (r : Int)]
  ab : ga ≠ gb
  ac : ga ≠ gc
  bc : gb ≠ gc
def cB (ga gb gc : Nat) (g : Nat) : Prop := g = ga ∨ g = gb ∨ g = gc
theorem Cnt.tch {S : Nat → Prop} {w w' : World} {ga gb gc p q r : Nat} (h : Cnt w ga gb gc p q r) (hT : Tch S w w') (h1 : ∀ g, cB ga gb gc g → ¬ S g) : Cnt w' ga gb gc p q r :=
  ⟨hT.blk h.a (h1 _ (Or.inl rfl)), hT.blk h.b (h1 _ (Or.inr (Or.inl rfl))), hT.blk h.c (h1 _ (Or.inr (Or.inr rfl))), h.ab, h.ac, h.bc⟩
end Go.Proofs.Ytdfojhkpfbnmgaa
namespace Go.Proofs.Ytdfojhkpfbnmgaa
open Go.ChangeShapes Go.WideShapes Go.ChangeAt Go.RowKit
theorem below3 {w w1 : World} {o o' o'' : Obj} (hb : Below (((w.alloc o).alloc o').alloc o'').heap.size (((w.alloc o).alloc o').alloc o'') w1) : Below w.heap.size w w1 :=
  ((((Below.refl _ _).alloc (Nat.le_refl _) _).alloc (by simp) _).alloc (by simp; omega) _).trans (hb.mono (by simp; omega))
theorem Next_yes (a b c d e x y : Int) (w : World) (hm : mayB a b c d e = true) (ht : thereB a b x y = true) (hl : x * b + y + 1 ≠ a * b) :
    Calls Try.prog 69 #[.agg #[.int .i64 a, .int .i64 b, .int .i64 c, .int .i64 d, .int .i64 e], .agg #[.int .i64 x, .int .i64 y]] w fun e' w' => e' = .returned (.tuple #[.agg #[.int .i64 ((x * b + y + 1) / b), .int .i64 ((x * b + y + 1) % b)], .bool true]) ∧ Below w.heap.size w w' := by
  obtain ⟨k1, k2, k3, k4, k7, k8, k5, k6, _⟩ := may_bd hm
  obtain ⟨t1, t2, t3, t4⟩ := there_bd ht
  obtain ⟨p1, p2⟩ := mul_bd (x := x) (y := b) (lo := 0) (hi := 19) (by omega) (by omega) k3 k4 (by omega) (by omega)
  obtain ⟨q1, q2⟩ := mul_bd (x := a) (y := b) k1 k2 k3 k4 (by omega) (by omega)
  have Hm := Lib.hid hm
  clear hm
  have hn : numberI a b x y = x * b + y := by simp [numberI, ht]
  have Hn := Lib.hid hn
  clear hn
  have Ht := Lib.hid ht
  clear ht
  have hl' : (x * b + y + 1 == a * b) = false := by simpa using hl
  go_enter Try.func69, Try.ntmps69
  go_wp2_with (first
    | (go_at_call 42; refine (may_any _ _ _ _ _ _).mono ?_; rw [Hm.out]; rintro e' w1 ⟨rfl, hb1⟩; obtain ⟨hc1, hf1⟩ := bcell hb1; have hz2 : w.heap.size + 2 < w1.heap.size := by { have := hb1.size; simp at this; omega }; have hz1 : w.heap.size + 1 < w1.heap.size := by { omega }; have hz0 : w.heap.size < w1.heap.size := by { omega })
    | (go_at_call 70; refine (there_any _ _ _ _ _ _ _ _ k1 k2 k3 k4).mono ?_; rw [Ht.out]; rintro e' w2 ⟨rfl, hb2⟩; obtain ⟨hc2, hf2⟩ := bcell hb2; have hy2 : w.heap.size + 2 < w2.heap.size := by { have := hb2.size; omega }; have hy1 : w.heap.size + 1 < w2.heap.size := by { omega }; have hy0 : w.heap.size < w2.heap.size := by { omega })
    | (go_at_call 65; refine (Number_any _ _ _ _ _ _ _ _).mono ?_; rw [ifMay_yes _ Hm.out, Hn.out]; rintro e' w3 ⟨rfl, hb3⟩; obtain ⟨hc3, hf3⟩ := bcell hb3; have hx2 : w.heap.size + 2 < w3.heap.size := by { have := hb3.size; omega }; have hx1 : w.heap.size + 1 < w3.heap.size := by { omega }; have hx0 : w.heap.size < w3.heap.size := by { omega }))
  go_region
  go_wp2
  refine bodyPost_ret (v := .tuple #[.agg #[.int .i64 ((x * b + y + 1) / b), .int .i64 ((x * b + y + 1) % b)], .bool true]) (by simp [results, Try.results69, go_sem, hc3, hc2, hc1, hy2, hz2]) rfl ⟨rfl, ?_⟩
  have B3 : Below w.heap.size w w3 := (below3 hb1).trans ((hb2.trans (hb3.mono hb2.size)).mono (by omega))
  exact ((B3.setCell (by simp; omega) _).setCell (by simp; omega) _).drew
def nextOk (a b c d e x y : Int) : Bool := mayB a b c d e && (thereB a b x y && decide (x * b + y + 1 ≠ a * b))
def nextX (a b c d e x y : Int) : Int := if nextOk a b c d e x y = true then (x * b + y + 1) / b else 0
def nextY (a b c d e x y : Int) : Int := if nextOk a b c d e x y = true then (x * b + y + 1) % b else 0
theorem Next_any (a b c d e x y : Int) (w : World) :
    Calls Try.prog 69 #[.agg #[.int .i64 a, .int .i64 b, .int .i64 c, .int .i64 d, .int .i64 e], .agg #[.int .i64 x, .int .i64 y]] w fun e' w' => e' = .returned (.tuple #[.agg #[.int .i64 (nextX a b c d e x y), .int .i64 (nextY a b c d e x y)], .bool (nextOk a b c d e x y)]) ∧ Below w.heap.size w w' := by
  by_cases hok : nextOk a b c d e x y = true
  · have hok' := hok
    simp only [nextOk, Bool.and_eq_true, decide_eq_true_eq] at hok'
    obtain ⟨hm, ht, hl⟩ := hok'
    simp only [nextX, nextY, hok, if_true]
    exact Next_yes a b c d e x y w hm ht hl
  · have hno : nextOk a b c d e x y = false := by simpa using hok
    simp only [nextX, nextY, hno, Bool.false_eq_true, if_false]
    cases hm : mayB a b c d e
    · have Hm := Lib.hid hm
      clear hm hok hno
      go_enter Try.func69, Try.ntmps69
      go_wp2_with (go_at_call 42; refine (may_any _ _ _ _ _ _).mono ?_; rw [Hm.out]; rintro e' w1 ⟨rfl, hb1⟩; obtain ⟨hc1, hf1⟩ := bcell hb1; have hz2 : w.heap.size + 2 < w1.heap.size := by { have := hb1.size; simp at this; omega })
      refine bodyPost_ret (v := .tuple #[.agg #[.int .i64 0, .int .i64 0], .bool false]) (by simp [results, Try.results69, go_sem, hc1]) rfl ⟨rfl, ?_⟩
      exact ((below3 hb1).setCell (by simp; omega) _).setCell (by simp; omega) _
    · obtain ⟨k1, k2, k3, k4, k7, k8, k5, k6, _⟩ := may_bd hm
      have Hm := Lib.hid hm
      clear hm
      cases ht : thereB a b x y
      · have Ht := Lib.hid ht
        clear ht hok hno
        go_enter Try.func69, Try.ntmps69
        go_wp2_with (first
          | (go_at_call 42; refine (may_any _ _ _ _ _ _).mono ?_; rw [Hm.out]; rintro e' w1 ⟨rfl, hb1⟩; obtain ⟨hc1, hf1⟩ := bcell hb1; have hz2 : w.heap.size + 2 < w1.heap.size := by { have := hb1.size; simp at this; omega }; have hz1 : w.heap.size + 1 < w1.heap.size := by { omega }; have hz0 : w.heap.size < w1.heap.size := by { omega })
          | (go_at_call 70; refine (there_any _ _ _ _ _ _ _ _ k1 k2 k3 k4).mono ?_; rw [Ht.out]; rintro e' w2 ⟨rfl, hb2⟩; obtain ⟨hc2, hf2⟩ := bcell hb2; have hy2 : w.heap.size + 2 < w2.heap.size := by { have := hb2.size; omega }))
        refine bodyPost_ret (v := .tuple #[.agg #[.int .i64 0, .int .i64 0], .bool false]) (by simp [results, Try.results69, go_sem, hc1, hc2, hz2]) rfl ⟨rfl, ?_⟩
        exact (((below3 hb1).trans (hb2.mono (by omega))).setCell (by simp; omega) _).setCell (by simp; omega) _
      · obtain ⟨t1, t2, t3, t4⟩ := there_bd ht
        obtain ⟨p1, p2⟩ := mul_bd (x := x) (y := b) (lo := 0) (hi := 19) (by omega) (by omega) k3 k4 (by omega) (by omega)
        obtain ⟨q1, q2⟩ := mul_bd (x := a) (y := b) k1 k2 k3 k4 (by omega) (by omega)
        have hl : x * b + y + 1 = a * b := by simpa [nextOk, Hm.out, ht] using hno
        have hn : numberI a b x y = x * b + y := by simp [numberI, ht]
        have Hn := Lib.hid hn
        have Ht := Lib.hid ht
        have hl' : (x * b + y + 1 == a * b) = true := by simpa using hl
        clear hn ht hok hno hl
        go_enter Try.func69, Try.ntmps69
        go_wp2_with (first
          | (go_at_call 42; refine (may_any _ _ _ _ _ _).mono ?_; rw [Hm.out]; rintro e' w1 ⟨rfl, hb1⟩; obtain ⟨hc1, hf1⟩ := bcell hb1; have hz2 : w.heap.size + 2 < w1.heap.size := by { have := hb1.size; simp at this; omega }; have hz1 : w.heap.size + 1 < w1.heap.size := by { omega }; have hz0 : w.heap.size < w1.heap.size := by { omega })
          | (go_at_call 70; refine (there_any _ _ _ _ _ _ _ _ k1 k2 k3 k4).mono ?_; rw [Ht.out]; rintro e' w2 ⟨rfl, hb2⟩; obtain ⟨hc2, hf2⟩ := bcell hb2; have hy2 : w.heap.size + 2 < w2.heap.size := by { have := hb2.size; omega }; have hy1 : w.heap.size + 1 < w2.heap.size := by { omega }; have hy0 : w.heap.size < w2.heap.size := by { omega })
          | (go_at_call 65; refine (Number_any _ _ _ _ _ _ _ _).mono ?_; rw [ifMay_yes _ Hm.out, Hn.out]; rintro e' w3 ⟨rfl, hb3⟩; obtain ⟨hc3, hf3⟩ := bcell hb3; have hx2 : w.heap.size + 2 < w3.heap.size := by { have := hb3.size; omega }; have hx1 : w.heap.size + 1 < w3.heap.size := by { omega }; have hx0 : w.heap.size < w3.heap.size := by { omega }))
        refine bodyPost_ret (v := .tuple #[.agg #[.int .i64 0, .int .i64 0], .bool false]) (by simp [results, Try.results69, go_sem, hc1, hc2, hc3, hz2, hy2]) rfl ⟨rfl, ?_⟩
        have B3 : Below w.heap.size w w3 := (below3 hb1).trans ((hb2.trans (hb3.mono hb2.size)).mono (by omega))
        exact (B3.setCell (by simp; omega) _).setCell (by simp; omega) _
end Go.Proofs.Ytdfojhkpfbnmgaa
namespace Go.Proofs.Ytdfojhkpfbnmgaa
open Go.ChangeShapes Go.WideShapes Go.ChangeAt Go.RowKit
abbrev Vis := Nat × Nat × List Nat
def walkF (a b c : Int) (NB : Nat) (fs : List Flt) : Nat → Nat → ChS → List Vis → Int × List Vis × ChS
  | 0, _, s, acc => (0, acc, s)
  | r + 1, i, s, acc =>
    if badB fs ((i / NB : Nat) : Int) = true then walkF a b c NB fs r (i + 1) s acc
    else if s.readZ a b ((i / NB : Nat) : Int) ((i % NB : Nat) : Int) = 0 then walkF a b c NB fs r (i + 1) (s.readS a b ((i / NB : Nat) : Int) ((i % NB : Nat) : Int)) (acc ++ [(i / NB, i % NB, s.readB a b c ((i / NB : Nat) : Int) ((i % NB : Nat) : Int))])
    else (s.readZ a b ((i / NB : Nat) : Int) ((i % NB : Nat) : Int), acc, s.readS a b ((i / NB : Nat) : Int) ((i % NB : Nat) : Int))
def fdOf (v : Vis) : List Fd := if readSt v.2.2 = 1 then [⟨(v.1 : Int), (v.2.1 : Int), ((lkT v.2.2).1 : Int), ((lkT v.2.2).2.1 : Int), ((lkT v.2.2).2.2.1 : Int), ((lkT v.2.2).2.2.2 : Int)⟩] else []
def fdsOf (l : List Vis) : List Fd := l.flatMap fdOf
theorem fdsOf_snoc (l : List Vis) (v : Vis) : fdsOf (l ++ [v]) = fdsOf l ++ fdOf v := by simp [fdsOf]
theorem fdOf_lk {k l : Nat} {bs D : List Nat} {n K P S E st : Nat} (h : Lk bs D n K P S E st) : fdOf (k, l, bs) = if st = 1 then [⟨(k : Int), (l : Int), (K : Int), (P : Int), (S : Int), (E : Int)⟩] else [] := by
  obtain ⟨_, _, h3, h4⟩ := h
  unfold fdOf
  rw [h4]
  simp only [h3]
theorem fdsOf_len (l : List Vis) : (fdsOf l).length ≤ l.length := by
  induction l with
  | nil => simp [fdsOf]
  | cons v l ih =>
    have : fdsOf (v :: l) = fdOf v ++ fdsOf l := rfl
    rw [this, List.length_append, List.length_cons]
    have : (fdOf v).length ≤ 1 := by unfold fdOf; split <;> simp
    omega
def cnt (p : Nat → Bool) (l : List Vis) : Nat := (l.filter fun v => p (readSt v.2.2)).length
theorem walkF_bad {a b c : Int} {NB r i : Nat} {fs : List Flt} {s : ChS} {acc : List Vis} (h : badB fs ((i / NB : Nat) : Int) = true) : walkF a b c NB fs (r + 1) i s acc = walkF a b c NB fs r (i + 1) s acc := by
  rw [walkF, if_pos h]
theorem walkF_ok {a b c : Int} {NB r i : Nat} {fs : List Flt} {s S1 : ChS} {acc : List Vis} {bs : List Nat} (h : badB fs ((i / NB : Nat) : Int) = false) (hz : s.readZ a b ((i / NB : Nat) : Int) ((i % NB : Nat) : Int) = 0) (h1 : s.readS a b ((i / NB : Nat) : Int) ((i % NB : Nat) : Int) = S1) (h2 : s.readB a b c ((i / NB : Nat) : Int) ((i % NB : Nat) : Int) = bs) : walkF a b c NB fs (r + 1) i s acc = walkF a b c NB fs r (i + 1) S1 (acc ++ [(i / NB, i % NB, bs)]) := by
  rw [walkF, if_neg (by rw [h]; simp), if_pos hz, h1, h2]
theorem walkF_err {a b c : Int} {NB r i : Nat} {fs : List Flt} {s S1 : ChS} {acc : List Vis} {Z : Int} (h : badB fs ((i / NB : Nat) : Int) = false) (hz : s.readZ a b ((i / NB : Nat) : Int) ((i % NB : Nat) : Int) = Z) (hne : Z ≠ 0) (h1 : s.readS a b ((i / NB : Nat) : Int) ((i % NB : Nat) : Int) = S1) : walkF a b c NB fs (r + 1) i s acc = (Z, acc, S1) := by
  rw [walkF, if_neg (by rw [h]; simp), if_neg (by rw [hz]; exact hne), hz, h1]
theorem divmod {i NA NB : Nat} (hB : 0 < NB) (h : i < NA * NB) : i / NB < NA ∧ i % NB < NB ∧ i / NB * NB + i % NB = i := ⟨Nat.div_lt_of_lt_mul (by rw [Nat.mul_comm]; exact h), Nat.mod_lt _ hB, by rw [Nat.mul_comm]; exact Nat.div_add_mod i NB⟩
theorem there_in {a b : Int} {NA NB i : Nat} (hA : (NA : Int) = a) (hB : (NB : Int) = b) (h0 : 0 < NB) (h : i < NA * NB) : thereB a b ((i / NB : Nat) : Int) ((i % NB : Nat) : Int) = true := by
  obtain ⟨h1, h2, _⟩ := divmod h0 h
  generalize i / NB = q at h1 ⊢
  generalize i % NB = r at h2 ⊢
  unfold thereB withinB
  simp
  omega
theorem next_at (a b c d e : Int) (NA NB i : Nat) (w : World) (hm : mayB a b c d e = true) (hA : (NA : Int) = a) (hB : (NB : Int) = b) (h0 : 0 < NB) (h : i < NA * NB) (X Y : Int) (T : Bool) (hX : Hid (X = (if i + 1 < NA * NB then (((i + 1) / NB : Nat) : Int) else 0) ∧ Y = (if i + 1 < NA * NB then (((i + 1) % NB : Nat) : Int) else 0) ∧ T = decide (i + 1 < NA * NB))) :
    Calls Try.prog 69 #[.agg #[.int .i64 a, .int .i64 b, .int .i64 c, .int .i64 d, .int .i64 e], .agg #[.int .i64 ((i / NB : Nat) : Int), .int .i64 ((i % NB : Nat) : Int)]] w fun e' w' => e' = .returned (.tuple #[.agg #[.int .i64 X, .int .i64 Y], .bool T]) ∧ Below w.heap.size w w' := by
  have ht := there_in hA hB h0 h
  obtain ⟨h1, h2, h3⟩ := divmod h0 h
  have hx : ((i / NB : Nat) : Int) * b + ((i % NB : Nat) : Int) + 1 = ((i + 1 : Nat) : Int) := by rw [← hB, ← Int.natCast_mul]; omega
  have hab : a * b = ((NA * NB : Nat) : Int) := by rw [← hA, ← hB, Int.natCast_mul]
  have hok : nextOk a b c d e ((i / NB : Nat) : Int) ((i % NB : Nat) : Int) = decide (i + 1 < NA * NB) := by
    unfold nextOk
    rw [hm, ht, hx, hab, Bool.true_and, Bool.true_and]
    by_cases hl : i + 1 < NA * NB
    · rw [decide_eq_true hl, decide_eq_true (by omega)]
    · rw [decide_eq_false hl, decide_eq_false (by omega)]
  have := Next_any a b c d e ((i / NB : Nat) : Int) ((i % NB : Nat) : Int) w
  have eX : nextX a b c d e ((i / NB : Nat) : Int) ((i % NB : Nat) : Int) = X := by
    unfold nextX
    rw [hok, hX.out.1, hx]
    by_cases hl : i + 1 < NA * NB
    · rw [if_pos (decide_eq_true hl), if_pos hl, ← hB]
      rfl
    · rw [if_neg (by simpa using hl), if_neg hl]
  have eY : nextY a b c d e ((i / NB : Nat) : Int) ((i % NB : Nat) : Int) = Y := by
    unfold nextY
    rw [hok, hX.out.2.1, hx]
    by_cases hl : i + 1 < NA * NB
    · rw [if_pos (decide_eq_true hl), if_pos hl, ← hB]
      rfl
    · rw [if_neg (by simpa using hl), if_neg hl]
  rw [eX, eY, hok, ← hX.out.2.2] at this
  exact this
end Go.Proofs.Ytdfojhkpfbnmgaa
namespace Go.Proofs.Ytdfojhkpfbnmgaa
open Go.ChangeShapes Go.WideShapes Go.ChangeAt Go.RowKit
attribute [local go_sem ↓] Go.wp_at_zero Go.wp_at_succ
end Go.Proofs.Ytdfojhkpfbnmgaa
namespace Go.Proofs.Ytdfojhkpfbnmgaa
open Go.ChangeShapes Go.WideShapes Go.ChangeAt Go.RowKit
end Go.Proofs.Ytdfojhkpfbnmgaa
namespace Go.Proofs.Ytdfojhkpfbnmgaa
open Go.ChangeShapes Go.WideShapes Go.ChangeAt Go.RowKit
def ChS.wait (s : ChS) : Int := if s.armed then s.turn - s.ops else 0
def rfB (m gB gN gW gD : Nat) (g : Nat) : Prop := g = m ∨ g = gB ∨ g = gN ∨ g = gW ∨ g = gD
structure PgAt (w : World) (L : Nat) (S : Nat → Prop) (RW : Nat) (X : List Nat) (N : Nat) (p : Nat × Nat) : Prop where
  lt : p.1 < w.heap.size
  ge : L ≤ p.1
  ns : ¬ S p.1
  cap : RW ≤ p.2
  cap2 : p.2 ≤ maxLen
  cell : ∀ j, j < RW → w.cell? ⟨p.1, j, none⟩ = some (byteV (X.getD (N * RW + j) 0))
theorem PgAt.keep {w w' : World} {L RW N : Nat} {S : Nat → Prop} {X : List Nat} {p : Nat × Nat} (h : PgAt w L S RW X N p) (hz : w.heap.size ≤ w'.heap.size) (hk : w'.heap[p.1]? = w.heap[p.1]?) : PgAt w' L S RW X N p :=
  ⟨by have := h.lt; omega, h.ge, h.ns, h.cap, h.cap2, fun j hj => by rw [← h.cell j hj]; exact World.cell?_of_block (w := w) hk⟩
def pgV (RW : Nat) (p : Nat × Nat) : Value := .slice (some ⟨p.1, 0, none⟩) RW p.2
def FltR (w : World) (L : Nat) (S : Nat → Prop) (A : Option Addr) (fs : List Flt) : Prop :=
  fs = [] ∨ ∃ g off, A = some ⟨g, off, none⟩ ∧ g < w.heap.size ∧ L ≤ g ∧ ¬ S g ∧ ∀ k f, fs[k]? = some f →
    w.cell? ⟨g, off + k * 3, none⟩ = some (.int .i64 f.blk) ∧ w.cell? ⟨g, off + k * 3 + 1, none⟩ = some (.bool f.fac) ∧ w.cell? ⟨g, off + k * 3 + 2, none⟩ = some (.int .i64 f.aft)
theorem FltR.sl {w : World} {L : Nat} {S : Nat → Prop} {A : Option Addr} {fs : List Flt} (h : FltR w L S A fs) : SlF w w.heap.size A fs := by
  rcases h with h | ⟨g, off, e, hlt, _, _, hc⟩
  · exact Or.inl h
  · exact Or.inr ⟨g, off, e, hlt, hc⟩
theorem FltR.keep {w w' : World} {L : Nat} {S : Nat → Prop} {A : Option Addr} {fs : List Flt} (h : FltR w L S A fs) (hz : w.heap.size ≤ w'.heap.size) (hk : ∀ g, g < w.heap.size → L ≤ g → ¬ S g → w'.heap[g]? = w.heap[g]?) : FltR w' L S A fs := by
  rcases h with h | ⟨g, off, e, hlt, h1, h2, hc⟩
  · exact Or.inl h
  · have hq : ∀ o, w'.cell? ⟨g, o, none⟩ = w.cell? ⟨g, o, none⟩ := fun o => World.cell?_of_block (w := w) (hk g hlt h1 h2)
    exact Or.inr ⟨g, off, e, by omega, h1, h2, fun k f hf => by rw [hq, hq, hq]; exact hc k f hf⟩
def kcol (K : List Int) (j NB : Nat) : List Value := (List.range NB).map (fun i => Value.int .i64 (K.getD (3 * i + j) 0))
end Go.Proofs.Ytdfojhkpfbnmgaa
namespace Go.Proofs.Ytdfojhkpfbnmgaa
open Go.ChangeShapes Go.WideShapes Go.ChangeAt Go.RowKit
structure ChS.Wt (s : ChS) : Prop where
  w0 : s.armed = true → s.ops + 1 ≤ s.turn
  w1 : s.armed = true → s.turn ≤ 4000000000
end Go.Proofs.Ytdfojhkpfbnmgaa
namespace Go.Proofs.Ytdfojhkpfbnmgaa
open Go.ChangeShapes Go.WideShapes Go.ChangeAt Go.RowKit
structure RefC (w : World) (m gB gN gW gD L : Nat) (Af : Option Addr) (nf cf : Nat) (a b c d e : Int) (fs : List Flt) (s : ChS) (NP NB RW cB : Nat) : Prop where
  y0 : w.cell? ⟨m, 0, none⟩ = some (.int .i64 a)
  y1 : w.cell? ⟨m, 1, none⟩ = some (.int .i64 b)
  y2 : w.cell? ⟨m, 2, none⟩ = some (.int .i64 c)
  y3 : w.cell? ⟨m, 3, none⟩ = some (.int .i64 d)
  y4 : w.cell? ⟨m, 4, none⟩ = some (.int .i64 e)
  y5 : w.cell? ⟨m, 5, none⟩ = some (.slice Af nf cf)
  y6 : w.cell? ⟨m, 6, none⟩ = some (.slice (some ⟨gB, 0, none⟩) NP cB)
  y7 : w.cell? ⟨m, 7, none⟩ = some (.slice (some ⟨gN, 0, none⟩) NB NB)
  y8 : w.cell? ⟨m, 8, none⟩ = some (.slice (some ⟨gW, 0, none⟩) NB NB)
  y9 : w.cell? ⟨m, 9, none⟩ = some (.slice (some ⟨gD, 0, none⟩) NB NB)
  y10 : w.cell? ⟨m, 10, none⟩ = some (.int .i64 s.ops)
  y11 : w.cell? ⟨m, 11, none⟩ = some (.int .i64 s.cuts)
  y12 : w.cell? ⟨m, 12, none⟩ = some (.bool (!s.on))
  y13 : w.cell? ⟨m, 13, none⟩ = some (.int .i64 s.wait)
  y14 : w.cell? ⟨m, 14, none⟩ = some (.int .i64 s.cop)
  y15 : w.cell? ⟨m, 15, none⟩ = some (.int .i64 s.cby)
  y16 : w.cell? ⟨m, 16, none⟩ = some (.int .u8 (s.fill : Nat))
  fm : ∀ i, w.frozen? ⟨m, i, none⟩ = false
  hRW : Hid ((RW : Int) = c + 16)
  hNP : Hid ((NP : Int) = a * b)
  hNB : Hid ((NB : Int) = a)
  hcB : Hid (NP ≤ cB)
  n0 : ∀ k, k < NB → w.cell? ⟨gN, k, none⟩ = some (.int .i64 (s.k (k : Int) 0))
  n1 : ∀ k, k < NB → w.cell? ⟨gW, k, none⟩ = some (.int .i64 (s.k (k : Int) 1))
  n2 : ∀ k, k < NB → w.cell? ⟨gD, k, none⟩ = some (.int .i64 (s.k (k : Int) 2))
end Go.Proofs.Ytdfojhkpfbnmgaa
namespace Go.Proofs.Ytdfojhkpfbnmgaa
open Go.ChangeShapes Go.WideShapes Go.ChangeAt Go.RowKit
theorem cellOf {w w' : World} (h : Below w.heap.size w w') {p : Addr} {v : Value} (hc : w.cell? p = some v) : w'.cell? p = some v := (h.cell (World.block_lt_of_cell? w p hc)).trans hc
theorem RefC.below {w w' : World} {m gB gN gW gD L : Nat} {Af : Option Addr} {nf cf : Nat} {a b c d e : Int} {fs : List Flt} {s : ChS} {NP NB RW cB : Nat} (h : RefC w m gB gN gW gD L Af nf cf a b c d e fs s NP NB RW cB) (hb : Below w.heap.size w w') : RefC w' m gB gN gW gD L Af nf cf a b c d e fs s NP NB RW cB :=
  ⟨cellOf hb h.y0, cellOf hb h.y1, cellOf hb h.y2, cellOf hb h.y3, cellOf hb h.y4, cellOf hb h.y5, cellOf hb h.y6, cellOf hb h.y7, cellOf hb h.y8, cellOf hb h.y9, cellOf hb h.y10, cellOf hb h.y11, cellOf hb h.y12, cellOf hb h.y13, cellOf hb h.y14, cellOf hb h.y15, cellOf hb h.y16, fun i => (hb.frozen (p := ⟨m, i, none⟩) (show m < w.heap.size from World.block_lt_of_cell? w ⟨m, 0, none⟩ h.y0)).trans (h.fm i), h.hRW, h.hNP, h.hNB, h.hcB, fun k hk => cellOf hb (h.n0 k hk), fun k hk => cellOf hb (h.n1 k hk), fun k hk => cellOf hb (h.n2 k hk)⟩
structure PgR (w : World) (gB N RW : Nat) (p c : Nat) (bs : List Nat) : Prop where
  cN : w.cell? ⟨gB, N, none⟩ = some (.slice (some ⟨p, 0, none⟩) RW c)
  rd : Rd w (some ⟨p, 0, none⟩) RW 1 (bs.map byteV)
  lt : p < w.heap.size
  cap : RW ≤ c
  cap2 : c ≤ maxLen
theorem PgR.below {w w' : World} {gB N RW p c : Nat} {bs : List Nat} (h : PgR w gB N RW p c bs) (hb : Below w.heap.size w w') : PgR w' gB N RW p c bs :=
  ⟨cellOf hb h.cN, h.rd.keep (fun b o e j => by cases e; exact hb.cell h.lt), by have := h.lt; have := hb.size; omega, h.cap, h.cap2⟩
end Go.Proofs.Ytdfojhkpfbnmgaa
namespace Go.Proofs.Ytdfojhkpfbnmgaa
open Go.ChangeShapes Go.WideShapes Go.ChangeAt Go.RowKit
end Go.Proofs.Ytdfojhkpfbnmgaa
namespace Go.Proofs.Ytdfojhkpfbnmgaa
open Go.ChangeShapes Go.WideShapes Go.ChangeAt Go.RowKit
end Go.Proofs.Ytdfojhkpfbnmgaa
namespace Go.Proofs.Ytdfojhkpfbnmgaa
open Go.ChangeShapes Go.WideShapes Go.ChangeAt Go.RowKit
end Go.Proofs.Ytdfojhkpfbnmgaa
namespace Go.Proofs.Ytdfojhkpfbnmgaa
open Go.ChangeShapes Go.WideShapes Go.ChangeAt Go.RowKit
def Fresh (w w' : World) (gB : Nat) : Prop := ∀ i, w'.cell? ⟨gB, i, none⟩ = w.cell? ⟨gB, i, none⟩ ∨ ∃ g n c, w'.cell? ⟨gB, i, none⟩ = some (.slice (some ⟨g, 0, none⟩) n c) ∧ w.heap.size ≤ g
theorem Fresh.of {w w' : World} {gB : Nat} (hk : w'.heap[gB]? = w.heap[gB]?) : Fresh w w' gB := fun i => Or.inl (World.cell?_of_block (w := w) hk)
theorem Fresh.then {w w' w'' : World} {gB : Nat} (h : Fresh w w' gB) (hk : w''.heap[gB]? = w'.heap[gB]?) : Fresh w w'' gB := by
  intro i
  have e : w''.cell? ⟨gB, i, none⟩ = w'.cell? ⟨gB, i, none⟩ := World.cell?_of_block (w := w') hk
  rw [e]
  exact h i
theorem Fresh.put {w w1 : World} {gB N g9 n c : Nat} {t : TypeId} (hk : w1.heap[gB]? = w.heap[gB]?) (hB : ∃ cs, Blk w1 gB t cs) (hg : w.heap.size ≤ g9) : Fresh w (w1.setCell ⟨gB, N, none⟩ (.slice (some ⟨g9, 0, none⟩) n c)) gB := by
  intro i
  obtain ⟨cs, hB⟩ := hB
  have e : w1.cell? ⟨gB, i, none⟩ = w.cell? ⟨gB, i, none⟩ := World.cell?_of_block (w := w) hk
  rw [← e, (hB.set_ N _).cell_, hB.cell_, Array.getElem?_setIfInBounds]
  by_cases h1 : N = i
  · rw [if_pos h1]
    by_cases h2 : N < cs.size
    · rw [if_pos h2]
      exact Or.inr ⟨g9, n, c, rfl, hg⟩
    · rw [if_neg h2, Array.getElem?_eq_none (by omega)]
      exact Or.inl rfl
  · rw [if_neg h1]
    exact Or.inl rfl
end Go.Proofs.Ytdfojhkpfbnmgaa
namespace Go.Proofs.Ytdfojhkpfbnmgaa
open Go.ChangeShapes Go.WideShapes Go.ChangeAt Go.RowKit
end Go.Proofs.Ytdfojhkpfbnmgaa
namespace Go.Proofs.Ytdfojhkpfbnmgaa
open Go.ChangeShapes Go.WideShapes Go.ChangeAt Go.RowKit
end Go.Proofs.Ytdfojhkpfbnmgaa
namespace Go.Proofs.Ytdfojhkpfbnmgaa
open Go.ChangeShapes Go.WideShapes Go.ChangeAt Go.RowKit
end Go.Proofs.Ytdfojhkpfbnmgaa
namespace Go.Proofs.Ytdfojhkpfbnmgaa
open Go.ChangeShapes Go.WideShapes Go.ChangeAt Go.RowKit
end Go.Proofs.Ytdfojhkpfbnmgaa
namespace Go.Proofs.Ytdfojhkpfbnmgaa
open Go.ChangeShapes Go.WideShapes Go.ChangeAt Go.RowKit
end Go.Proofs.Ytdfojhkpfbnmgaa
namespace Go.Proofs.Ytdfojhkpfbnmgaa
open Go.ChangeShapes Go.WideShapes Go.ChangeAt Go.RowKit
theorem Wt.tick {s : ChS} (h : s.Wt) : s.tick.Wt := by
  unfold ChS.tick
  split
  · exact ⟨fun e => (by cases e), fun e => (by cases e)⟩
  · next hc =>
    refine ⟨fun e => ?_, fun e => h.w1 e⟩
    have e' : s.armed = true := e
    have h0 := h.w0 e'
    have : ¬ s.ops + 1 = s.turn := fun e2 => hc (by unfold ChS.cutB; rw [e', decide_eq_true e2]; rfl)
    show s.ops + 1 + 1 ≤ s.turn
    omega
theorem Wt.of {s s' : ChS} (h : s.Wt) (h1 : s'.armed = s.armed) (h2 : s'.turn = s.turn) (h3 : s'.ops = s.ops) : s'.Wt :=
  ⟨fun e => by rw [h2, h3]; exact h.w0 (h1 ▸ e), fun e => by rw [h2]; exact h.w1 (h1 ▸ e)⟩
theorem Wt.read {s : ChS} (h : s.Wt) (a b x y : Int) : (s.readS a b x y).Wt := by
  unfold ChS.readS
  split
  · exact Wt.tick h
  · exact h
theorem Wt.prog {s : ChS} (h : s.Wt) (a b c : Int) (fs : List Flt) (x y : Int) (bs : List Nat) : (s.progS a b c fs x y bs).Wt := by
  unfold ChS.progS
  split
  · split
    · split
      · exact Wt.of (Wt.tick h) rfl rfl rfl
      · exact Wt.of (Wt.tick h) rfl rfl rfl
    · exact Wt.tick h
  · exact h
theorem Wt.boot {s : ChS} (h : s.Wt) : s.boot.Wt := by
  unfold ChS.boot
  split
  · exact h
  · exact ⟨fun e => (by cases e), fun e => (by cases e)⟩
theorem Wt.arm {s : ChS} {n : Int} (h : s.Wt) (hb : s.Bnd n) (hn : n ≤ 900000000) (xo xb : Int) (xf : Nat) : (s.arm xo xb xf).Wt := by
  unfold ChS.arm
  split
  · next hc =>
    simp only [Bool.and_eq_true] at hc
    obtain ⟨_, hc⟩ := hc
    unfold armOkB at hc
    simp only [Bool.and_eq_true, decide_eq_true_eq] at hc
    obtain ⟨⟨⟨h1, h2⟩, h3⟩, h4⟩ := hc
    have := hb.o0
    have := hb.o1
    refine ⟨fun _ => ?_, fun _ => ?_⟩
    · show s.ops + 1 ≤ s.ops + xo
      omega
    · show s.ops + xo ≤ 4000000000
      omega
  · exact h
structure ChipL (w : World) (L : Nat) (m gx gb : Nat) (Af : Option Addr) (nf cf : Nat) (a b c d e : Int) (fs : List Flt) (s : ChS) : Prop where
  chip : ChipW w m gx gb Af nf cf a b c d e fs s
  low : ∀ g, chB m gx gb g → g < L
  lowF : fs = [] ∨ ∃ g off, Af = some ⟨g, off, none⟩ ∧ g < L
theorem ChipL.far {w w' : World} {L : Nat} {m gx gb : Nat} {Af : Option Addr} {nf cf : Nat} {a b c d e : Int} {fs : List Flt} {s : ChS} (h : ChipL w L m gx gb Af nf cf a b c d e fs s) {S : Nat → Prop} (hT : Tch S w w') (hs : ∀ g, S g → L ≤ g) : ChipL w' L m gx gb Af nf cf a b c d e fs s := by
  have hn : ∀ g, g < L → ¬ S g := fun g hg h1 => by have := hs g h1; omega
  obtain ⟨⟨⟨cx, cb, NX, NB, hX, hN, hcx, hB⟩, r1, r2, r3, n1, n2, n3, l1, l2, l3, l4⟩, lo, lf⟩ := h
  refine ⟨⟨⟨cx, cb, NX, NB, hX, hN, hcx, (hT.far m hB.lt (hn m (lo m (Or.inl rfl)))).trans hB⟩, r1.keep (hT.far gx r1.lt (hn gx (lo gx (Or.inr (Or.inl rfl))))), r2.keep (hT.far gb r2.lt (hn gb (lo gb (Or.inr (Or.inr rfl))))), ?_, n1, n2, n3, l1, l2, l3, l4⟩, lo, lf⟩
  rcases lf with lf | ⟨g, off, e, hg⟩
  · exact Or.inl lf
  · rcases r3 with r3 | ⟨g', off', e', hlt, h1, h2, h3, hc⟩
    · exact Or.inl r3
    · rw [e] at e'
      obtain ⟨rfl, rfl⟩ : g = g' ∧ off = off' := by cases e'; exact ⟨rfl, rfl⟩
      have hq : ∀ o, w'.cell? ⟨g, o, none⟩ = w.cell? ⟨g, o, none⟩ := fun o => World.cell?_of_block (w := w) (hT.far g hlt (hn g hg))
      exact Or.inr ⟨g, off, e, by have := hT.size; omega, h1, h2, h3, fun k f hf => by rw [hq, hq, hq]; exact hc k f hf⟩
theorem ChipL.next {w w' : World} {L : Nat} {m gx gb : Nat} {Af : Option Addr} {nf cf : Nat} {a b c d e : Int} {fs : List Flt} {s s' : ChS} (h : ChipL w L m gx gb Af nf cf a b c d e fs s) (hC : ChipW w' m gx gb Af nf cf a b c d e fs s') : ChipL w' L m gx gb Af nf cf a b c d e fs s' := ⟨hC, h.low, h.lowF⟩
end Go.Proofs.Ytdfojhkpfbnmgaa
namespace Go.Proofs.Ytdfojhkpfbnmgaa
open Go.ChangeShapes Go.WideShapes Go.ChangeAt Go.RowKit
theorem ChipL.below_ {w w' : World} {L : Nat} {m gx gb : Nat} {Af : Option Addr} {nf cf : Nat} {a b c d e : Int} {fs : List Flt} {s : ChS} (h : ChipL w L m gx gb Af nf cf a b c d e fs s) (hb : Below w.heap.size w w') : ChipL w' L m gx gb Af nf cf a b c d e fs s := ⟨h.chip.below hb, h.low, h.lowF⟩
def twB (m gx gb mR gB gN gW gD : Nat) (g : Nat) : Prop := chB m gx gb g ∨ (rfB mR gB gN gW gD) g
structure Good (s : ChS) (n : Int) : Prop where
  fine : Fine s n
  wt : s.Wt
theorem Good.mono {s : ChS} {n n' : Int} (h : Good s n) (hn : n ≤ n') : Good s n' := ⟨h.fine.mono hn, h.wt⟩
theorem Good.read {s : ChS} {n : Int} (h : Good s n) (a b x y : Int) : Good (s.readS a b x y) (n + 3) := by
  refine ⟨?_, Wt.read h.wt a b x y⟩
  unfold ChS.readS
  split
  · exact h.fine.tick.mono (by omega)
  · exact h.fine.mono (by omega)
theorem Good.prog {w : World} {m gx gb : Nat} {Af : Option Addr} {nf cf : Nat} {a b c d e : Int} {fs : List Flt} {s : ChS} (hC : ChipW w m gx gb Af nf cf a b c d e fs s) {n : Int} (h : Good s n) (x y : Int) (bs : List Nat) : Good (s.progS a b c fs x y bs) (n + 3) :=
  ⟨(prog_same hC h.fine x y bs (x.toNat + 1) (by omega)).2, Wt.prog h.wt a b c fs x y bs⟩
theorem Good.arm {s : ChS} {n : Int} (h : Good s n) (hn : n ≤ 900000000) (xo xb : Int) (xf : Nat) (hf : xf < 256) : Good (s.arm xo xb xf) (n + 3) :=
  ⟨((arm_same s 0 0 h.fine xo xb xf 0 hf).2).mono (by omega), Wt.arm h.wt h.fine.bnd hn xo xb xf⟩
theorem Good.boot {s : ChS} {n : Int} (h : Good s n) : Good s.boot (n + 3) := ⟨((boot_same s 0 0 h.fine 0).2).mono (by omega), Wt.boot h.wt⟩
end Go.Proofs.Ytdfojhkpfbnmgaa
namespace Go.Proofs.Ytdfojhkpfbnmgaa
open Go.ChangeShapes Go.WideShapes Go.ChangeAt Go.RowKit
def jumpsQ (J : Nat → Act → World → Prop) (Q : Exit → Act → World → Prop) : Exit → Act → World → Prop
  | .goto l, a, w => J l a w
  | e, a, w => Q e a w
theorem jumpsQ_mono {J J' : Nat → Act → World → Prop} {Q : Exit → Act → World → Prop} (h : ∀ l a w, J l a w → J' l a w) : ∀ e a w, jumpsQ J Q e a w → jumpsQ J' Q e a w := by
  intro e a w hq
  cases e with
  | goto l => exact h l a w hq
  | normal => exact hq
  | exit id => exact hq
  | ret => exact hq
  | panic ch => exact hq
  | outgrown => exact hq
theorem wp_to {P : Program} {c : Code} {a : Act} {w : World} {Q Q' : Exit → Act → World → Prop} (h : c.wp P Q a w) (hq : ∀ e a w, Q e a w → Q' e a w) : c.wp P Q' a w := by
  intro b k cs
  obtain ⟨e, a1, w1, h1, h2⟩ := h b k cs
  exact ⟨e, a1, w1, hq _ _ _ h1, h2⟩
theorem wp_scope_many {P : Program} {c : Code} {a : Act} {w : World} {Q : Exit → Act → World → Prop} (J : Nat → Nat → Act → World → Prop)
    (pass : ∀ l n a' w', J l n a' w' → (∀ l' m a1 w1, m < n → J l' m a1 w1 → ∀ rest, findLabel c l' = some (.seq .skip rest) → rest.wp P (jumpsQ (fun l a w => ∃ m, m < n ∧ J l m a w) Q) a1 w1) → ∃ rest, findLabel c l = some (.seq .skip rest) ∧ rest.wp P (jumpsQ (fun l a w => ∃ m, m < n ∧ J l m a w) Q) a' w')
    (first : (∀ l n a' w', J l n a' w' → ∀ rest, findLabel c l = some (.seq .skip rest) → rest.wp P (jumpsQ (fun l a w => ∃ n, J l n a w) Q) a' w') → c.wp P (jumpsQ (fun l a w => ∃ n, J l n a w) Q) a w) : (Code.scope c).wp P Q a w := by
  have step : ∀ n l a w, J l n a w → ∃ rest, findLabel c l = some (.seq .skip rest) ∧ rest.wp P (jumpsQ (fun l a w => ∃ m, m < n ∧ J l m a w) Q) a w := by
    intro n
    induction n using Nat.strongRecOn with
    | _ n ih =>
      intro l a w h
      refine pass l n a w h (fun l' m a1 w1 hm hJ rest hr => ?_)
      obtain ⟨rest', hr', hw⟩ := ih m hm l' a1 w1 hJ
      rw [hr] at hr'
      cases hr'
      exact wp_to hw (jumpsQ_mono fun l a w ⟨k, hk, h⟩ => ⟨k, by omega, h⟩)
  have hfirst := first (fun l n a' w' hJ rest hr => by
    obtain ⟨rest', hr', hw⟩ := step n l a' w' hJ
    rw [hr] at hr'
    cases hr'
    exact wp_to hw (jumpsQ_mono fun l a w ⟨k, hk, h⟩ => ⟨k, h⟩))
  intro b k cs
  have key : ∀ n l a w, J l n a w → ∃ rest, findLabel c l = some rest ∧ ∃ e a' w', Q e a' w' ∧ Arrives P (lone (b.at a (.code rest :: .inScope c :: k)) cs w) b k cs e a' w' := by
    intro n
    induction n using Nat.strongRecOn with
    | _ n ih =>
      intro l a w hJ
      obtain ⟨rest, hr, hw⟩ := step n l a w hJ
      replace hw := wp_seq (x := .skip) (wp_skip hw)
      refine ⟨_, hr, ?_⟩
      obtain ⟨e, a₁, w₁, hq, harr⟩ := hw b (.inScope c :: k) cs
      cases e with
      | normal => exact ⟨.normal, a₁, w₁, hq, Steps.trans harr (.one step_inScope)⟩
      | exit id => exact ⟨.exit id, a₁, w₁, hq, fun k' hk => harr k' (by simp [exitTo, hk])⟩
      | goto l' =>
        obtain ⟨m, hlt, hJ'⟩ := hq
        obtain ⟨rest2, hr2, e₂, a₂, w₂, hq₂, harr₂⟩ := ih m hlt l' a₁ w₁ hJ'
        have hg : gotoIn l' (.inScope c :: k) = some (.code rest2 :: .inScope c :: k) := by simp [gotoIn, hr2]
        exact ⟨e₂, a₂, w₂, hq₂, .of_steps (harr _ hg) harr₂⟩
      | ret => exact ⟨_, a₁, w₁, hq, harr⟩
      | panic ch => exact ⟨_, a₁, w₁, hq, harr⟩
      | outgrown => exact ⟨_, a₁, w₁, hq, harr⟩
  obtain ⟨e, a₁, w₁, hq, harr⟩ := hfirst b (.inScope c :: k) cs
  cases e with
  | normal => exact ⟨.normal, a₁, w₁, hq, .head step_scope (Steps.trans harr (.one step_inScope))⟩
  | exit id => exact ⟨.exit id, a₁, w₁, hq, fun k' hk => .head step_scope (harr k' (by simp [exitTo, hk]))⟩
  | goto l' =>
    obtain ⟨m, hJ'⟩ := hq
    obtain ⟨rest2, hr2, e₂, a₂, w₂, hq₂, harr₂⟩ := key m l' a₁ w₁ hJ'
    have hg : gotoIn l' (.inScope c :: k) = some (.code rest2 :: .inScope c :: k) := by simp [gotoIn, hr2]
    exact ⟨e₂, a₂, w₂, hq₂, .of_steps (.head step_scope (harr _ hg)) harr₂⟩
  | ret => exact ⟨_, a₁, w₁, hq, .of_steps (.one step_scope) harr⟩
  | panic ch => exact ⟨_, a₁, w₁, hq, .of_steps (.one step_scope) harr⟩
  | outgrown => exact ⟨_, a₁, w₁, hq, .of_steps (.one step_scope) harr⟩
theorem jumpsQ_ret {J : Nat → Act → World → Prop} {Q : Exit → Act → World → Prop} {a : Act} {w : World} (h : Q .ret a w) : jumpsQ J Q .ret a w := h
end Go.Proofs.Ytdfojhkpfbnmgaa
namespace Go.Proofs.Ytdfojhkpfbnmgaa
open Go.ChangeShapes Go.WideShapes Go.ChangeAt Go.RowKit
attribute [local go_sem ↓] Go.wp_at_zero Go.wp_at_succ
theorem readB_8 {s : ChS} (h : Bytes8 s.X) (a b c x y : Int) : Bytes8 (s.readB a b c x y) := by
  unfold ChS.readB
  split
  · intro v hv
    exact h v (List.mem_of_mem_drop (List.mem_of_mem_take hv))
  · intro v hv
    simp at hv
theorem readB_le (s : ChS) (a b c x y : Int) (hc : c ≤ 64) : (s.readB a b c x y).length ≤ 1000000 := by
  unfold ChS.readB
  split
  · unfold ChS.pageOf
    rw [List.length_take]
    omega
  · simp
theorem readS_X (s : ChS) (a b x y : Int) : (s.readS a b x y).X = s.X := by
  unfold ChS.readS
  split
  · unfold ChS.tick
    split <;> rfl
  · rfl
theorem ChN.below_ {w w' : World} {L : Nat} {m gx gb : Nat} {Af : Option Addr} {nf cf : Nat} {a b c d e : Int} {fs : List Flt} {s : ChS} (h : ChN w L m gx gb Af nf cf a b c d e fs s) (hb : Below w.heap.size w w') : ChN w' L m gx gb Af nf cf a b c d e fs s := ⟨h.chip.below hb, h.low, h.lowF⟩
theorem ChN.geo {w : World} {L : Nat} {m gx gb : Nat} {Af : Option Addr} {nf cf : Nat} {a b c d e : Int} {fs : List Flt} {s : ChS} (h : ChN w L m gx gb Af nf cf a b c d e fs s) : mayB a b c d e = true ∧ 4 ≤ b ∧ b ≤ 8 ∧ 8 ≤ a ∧ a ≤ 20 ∧ c ≤ 64 := by
  obtain ⟨hm, -, -⟩ := planMay_bd h.chip.may
  obtain ⟨g1, g2, g3, g4, g5, g6, -⟩ := may_bd hm
  exact ⟨hm, g3, g4, g1, g2, g6⟩
structure Evscan (w0 : World) (n0 : Int) (m gx gb : Nat) (Af : Option Addr) (nf cf : Nat) (a b c d e : Int) (fs : List Flt) (L NA NB gs : Nat) (R : Int × List Vis × ChS) (wr : World) (i : Nat) (S : ChS) (acc : List Vis) (x y : Int) : Prop where
  chip : ChN wr L m gx gb Af nf cf a b c d e fs S
  pl : Blk wr w0.heap.size 53 #[.int .i64 x, .int .i64 y]
  pg : ∃ v0 v1 v2 v3 v4 v5, Blk wr (w0.heap.size + 1) 99 #[v0, v1, v2, v3, v4, v5]
  cap : (Cap wr gs (w0.heap.size + 2) (fdsOf acc))
  alen : acc.length ≤ i
  tch : Tch (fun g => chB m gx gb g ∨ g = gs ∨ w0.heap.size ≤ g) w0 wr
  good : Good S (n0 + 3 * (i : Int))
  by8 : Bytes8 S.X
  lt : i < NA * NB
  px : x = ((i / NB : Nat) : Int)
  py : y = ((i % NB : Nat) : Int)
def scanJ1 (w0 : World) (n0 : Int) (m gx gb : Nat) (Af : Option Addr) (nf cf : Nat) (a b c d e : Int) (fs : List Flt) (L NA NB gs : Nat) (R : Int × List Vis × ChS) (n : Nat) (a' : Act) (wr : World) : Prop := ∃ (i : Nat) (S : ChS) (acc : List Vis) (x y : Int) (u : Nat → Value),
  a' = { tmps := #[.pointer (some ⟨m, 0, none⟩), .func (.func 63) #[] #[.pointer (some ⟨gs, 0, none⟩)], u 2, u 3, .int .i64 0, .pointer (some ⟨w0.heap.size, 0, none⟩), .pointer (some ⟨w0.heap.size + 1, 0, none⟩), u 7, u 8, u 9, u 10, u 11, u 12, u 13, u 14, u 15, u 16, u 17, u 18, u 19, u 20, u 21, u 22, u 23, u 24, u 25, u 26, u 27, u 28, u 29, u 30, u 31, u 32, u 33, u 34, u 35], defers := [] } ∧ Evscan w0 n0 m gx gb Af nf cf a b c d e fs L NA NB gs R wr i S acc x y ∧ Hid (walkF a b c NB fs (NA * NB - i) i S acc = R) ∧ 2 * (NA * NB - i) + 1 ≤ n
structure Ewscan (w0 : World) (n0 : Int) (m gx gb : Nat) (Af : Option Addr) (nf cf : Nat) (a b c d e : Int) (fs : List Flt) (L NA NB gs : Nat) (R : Int × List Vis × ChS) (wr : World) (i : Nat) (S : ChS) (acc : List Vis) (x y : Int) : Prop where
  chip : ChN wr L m gx gb Af nf cf a b c d e fs S
  pl : Blk wr w0.heap.size 53 #[.int .i64 x, .int .i64 y]
  pg : ∃ v0 v1 v2 v3 v4 v5, Blk wr (w0.heap.size + 1) 99 #[v0, v1, v2, v3, v4, v5]
  cap : (Cap wr gs (w0.heap.size + 2) (fdsOf acc))
  alen : acc.length ≤ i + 1
  tch : Tch (fun g => chB m gx gb g ∨ g = gs ∨ w0.heap.size ≤ g) w0 wr
  good : Good S (n0 + 3 + 3 * (i : Int))
  by8 : Bytes8 S.X
  lt : i < NA * NB
  px : x = ((i / NB : Nat) : Int)
  py : y = ((i % NB : Nat) : Int)
def scanJ0 (w0 : World) (n0 : Int) (m gx gb : Nat) (Af : Option Addr) (nf cf : Nat) (a b c d e : Int) (fs : List Flt) (L NA NB gs : Nat) (R : Int × List Vis × ChS) (n : Nat) (a' : Act) (wr : World) : Prop := ∃ (i : Nat) (S : ChS) (acc : List Vis) (x y : Int) (u : Nat → Value),
  a' = { tmps := #[.pointer (some ⟨m, 0, none⟩), .func (.func 63) #[] #[.pointer (some ⟨gs, 0, none⟩)], u 2, u 3, .int .i64 0, .pointer (some ⟨w0.heap.size, 0, none⟩), .pointer (some ⟨w0.heap.size + 1, 0, none⟩), u 7, u 8, u 9, u 10, u 11, u 12, u 13, u 14, u 15, u 16, u 17, u 18, u 19, u 20, u 21, u 22, u 23, u 24, u 25, u 26, u 27, u 28, u 29, u 30, u 31, u 32, u 33, u 34, u 35], defers := [] } ∧ Ewscan w0 n0 m gx gb Af nf cf a b c d e fs L NA NB gs R wr i S acc x y ∧ Hid (walkF a b c NB fs (NA * NB - (i + 1)) (i + 1) S acc = R) ∧ 2 * (NA * NB - i) ≤ n
theorem scanJ1.mk {w0 : World} {n0 : Int} {m gx gb : Nat} {Af : Option Addr} {nf cf : Nat} {a b c d e : Int} {fs : List Flt} {L NA NB gs : Nat} {R : Int × List Vis × ChS} {n : Nat} {wr : World} {i : Nat} {S : ChS} {acc : List Vis} {x y : Int} {u2 u3 u7 u8 u9 u10 u11 u12 u13 u14 u15 u16 u17 u18 u19 u20 u21 u22 u23 u24 u25 u26 u27 u28 u29 u30 u31 u32 u33 u34 u35 : Value} (h : Evscan w0 n0 m gx gb Af nf cf a b c d e fs L NA NB gs R wr i S acc x y ∧ Hid (walkF a b c NB fs (NA * NB - i) i S acc = R) ∧ 2 * (NA * NB - i) + 1 ≤ n) : scanJ1 w0 n0 m gx gb Af nf cf a b c d e fs L NA NB gs R n { tmps := #[.pointer (some ⟨m, 0, none⟩), .func (.func 63) #[] #[.pointer (some ⟨gs, 0, none⟩)], u2, u3, .int .i64 0, .pointer (some ⟨w0.heap.size, 0, none⟩), .pointer (some ⟨w0.heap.size + 1, 0, none⟩), u7, u8, u9, u10, u11, u12, u13, u14, u15, u16, u17, u18, u19, u20, u21, u22, u23, u24, u25, u26, u27, u28, u29, u30, u31, u32, u33, u34, u35], defers := [] } wr :=
  ⟨i, S, acc, x, y, fun i => (#[undef, undef, u2, u3, undef, undef, undef, u7, u8, u9, u10, u11, u12, u13, u14, u15, u16, u17, u18, u19, u20, u21, u22, u23, u24, u25, u26, u27, u28, u29, u30, u31, u32, u33, u34, u35] : Array Value).getD i undef, rfl, h⟩
theorem scanJ0.mk {w0 : World} {n0 : Int} {m gx gb : Nat} {Af : Option Addr} {nf cf : Nat} {a b c d e : Int} {fs : List Flt} {L NA NB gs : Nat} {R : Int × List Vis × ChS} {n : Nat} {wr : World} {i : Nat} {S : ChS} {acc : List Vis} {x y : Int} {u2 u3 u7 u8 u9 u10 u11 u12 u13 u14 u15 u16 u17 u18 u19 u20 u21 u22 u23 u24 u25 u26 u27 u28 u29 u30 u31 u32 u33 u34 u35 : Value} (h : Ewscan w0 n0 m gx gb Af nf cf a b c d e fs L NA NB gs R wr i S acc x y ∧ Hid (walkF a b c NB fs (NA * NB - (i + 1)) (i + 1) S acc = R) ∧ 2 * (NA * NB - i) ≤ n) : scanJ0 w0 n0 m gx gb Af nf cf a b c d e fs L NA NB gs R n { tmps := #[.pointer (some ⟨m, 0, none⟩), .func (.func 63) #[] #[.pointer (some ⟨gs, 0, none⟩)], u2, u3, .int .i64 0, .pointer (some ⟨w0.heap.size, 0, none⟩), .pointer (some ⟨w0.heap.size + 1, 0, none⟩), u7, u8, u9, u10, u11, u12, u13, u14, u15, u16, u17, u18, u19, u20, u21, u22, u23, u24, u25, u26, u27, u28, u29, u30, u31, u32, u33, u34, u35], defers := [] } wr :=
  ⟨i, S, acc, x, y, fun i => (#[undef, undef, u2, u3, undef, undef, undef, u7, u8, u9, u10, u11, u12, u13, u14, u15, u16, u17, u18, u19, u20, u21, u22, u23, u24, u25, u26, u27, u28, u29, u30, u31, u32, u33, u34, u35] : Array Value).getD i undef, rfl, h⟩
def scanJ (w0 : World) (n0 : Int) (m gx gb : Nat) (Af : Option Addr) (nf cf : Nat) (a b c d e : Int) (fs : List Flt) (L NA NB gs : Nat) (R : Int × List Vis × ChS) (l n : Nat) (a' : Act) (wr : World) : Prop := (l = 1 ∧ scanJ1 w0 n0 m gx gb Af nf cf a b c d e fs L NA NB gs R n a' wr) ∨ (l = 0 ∧ scanJ0 w0 n0 m gx gb Af nf cf a b c d e fs L NA NB gs R n a' wr)
def scanE (w0 : World) (n0 : Int) (m gx gb : Nat) (Af : Option Addr) (nf cf : Nat) (a b c d e : Int) (fs : List Flt) (L NA NB gs : Nat) (R : Int × List Vis × ChS) (e' : Ending) (w' : World) : Prop := e' = .returned (.int .i64 R.1) ∧ ChipW w' m gx gb Af nf cf a b c d e fs R.2.2 ∧ (Cap w' gs (w0.heap.size + 2) (fdsOf R.2.1)) ∧ R.2.1.length ≤ 160 ∧ Tch (fun g => chB m gx gb g ∨ g = gs) w0 w' ∧ Good R.2.2 (n0 + 1000) ∧ Bytes8 R.2.2.X
theorem bad_v0 (m gx gb : Nat) (Af : Option Addr) (nf cf : Nat) (a b c d e : Int) (fs : List Flt) (B : Int) (W : Bool) (w : World) (s : ChS) (hC : ChipW w m gx gb Af nf cf a b c d e fs s) (hv : Hid (badB fs B = W)) : Calls Try.prog 12 #[.pointer (some ⟨m, 0, none⟩), .int .i64 B] w fun e' w' => e' = .returned (.bool W) ∧ Below w.heap.size w w' := by
  have := bad_any m gx gb Af nf cf a b c d e fs B w s hC
  rwa [hv.out] at this
theorem geometry_0 (m gx gb : Nat) (Af : Option Addr) (nf cf : Nat) (a b c d e : Int) (fs : List Flt) (w : World) (s : ChS) (hC : ChipW w m gx gb Af nf cf a b c d e fs s) : Calls Try.prog 36 #[.pointer (some ⟨m, 0, none⟩)] w fun e' w' => e' = .returned (.agg #[.int .i64 a, .int .i64 b, .int .i64 c, .int .i64 d, .int .i64 e]) ∧ Below w.heap.size w w' := by
  obtain ⟨cx, cb, NX, NB, hX, hN, hcx, hB⟩ := hC.blk
  have hB := hB.alloc_ (.cells #[.int .i64 0, .int .i64 0, .int .i64 0, .int .i64 0, .int .i64 0] 23)
  have HB0 : Below w.heap.size w (w.alloc (.cells #[.int .i64 0, .int .i64 0, .int .i64 0, .int .i64 0, .int .i64 0] 23)) := (Below.refl _ _).alloc (Nat.le_refl _) _
  have y0 := hB.cell_ 0; have y1 := hB.cell_ 1; have y2 := hB.cell_ 2; have y3 := hB.cell_ 3; have y4 := hB.cell_ 4
  simp at y0 y1 y2 y3 y4
  clear hC hB hX hN hcx
  go_enter Try.func36, Try.ntmps36
  go_wp2_with fail
  refine bodyPost_ret (v := .agg #[.int .i64 a, .int .i64 b, .int .i64 c, .int .i64 d, .int .i64 e]) (by simp [results, Try.results36, go_sem]) rfl ⟨rfl, ?_⟩
  exact (Below.refl _ _).alloc (Nat.le_refl _) _
theorem capK {S : Nat → Prop} {w w' : World} {gs base : Nat} {L : List Fd} (h : Cap w gs base L) (hT : Tch S w w') (h1 : ∀ g, (g = gs ∨ base ≤ g) → ¬ S g) : Cap w' gs base L := by
  obtain ⟨⟨v, hB, hR⟩, hlt⟩ := h
  refine ⟨⟨v, hT.blk hB (h1 gs (Or.inl rfl)), ?_⟩, hlt⟩
  obtain ⟨h2, h3⟩ := hR
  refine ⟨h2, ?_⟩
  rcases h3 with h3 | ⟨g', cap, cur, rfl, hb, hh, hr⟩
  · exact Or.inl h3
  · have hlt : g' < w.heap.size := by
      rcases Nat.lt_or_ge g' w.heap.size with hx | hx
      · exact hx
      · rw [Array.getElem?_eq_none hx] at hh
        cases hh
    exact Or.inr ⟨g', cap, cur, rfl, hb, (hT.far g' hlt (h1 g' (Or.inr hb))).trans hh, hr⟩
theorem Blk.ch {w w' : World} {g L m gx gb : Nat} {t : TypeId} {cs : Array Value} (h : Blk w g t cs) (hT : Tch (chB m gx gb) w w') (hlow : ∀ g, chB m gx gb g → g < L) (hg : L ≤ g) : Blk w' g t cs := hT.blk h (fun hc => by have := hlow _ hc; omega)
theorem each_scan (w0 : World) (n0 : Int) (m gx gb : Nat) (Af : Option Addr) (nf cf : Nat) (a b c d e : Int) (fs : List Flt) (L NA NB gs : Nat) (s : ChS) (R : Int × List Vis × ChS) (hC : ChN w0 L m gx gb Af nf cf a b c d e fs s) (hL : L ≤ w0.heap.size) (hgs : L ≤ gs ∧ gs < w0.heap.size) (hcap : (Cap w0 gs (w0.heap.size + 2) (fdsOf []))) (hg : Good s n0) (hn0 : n0 ≤ 800000000) (h8 : Bytes8 s.X) (hNA : (NA : Int) = a) (hNB : (NB : Int) = b) (hR : Hid (walkF a b c NB fs (NA * NB) 0 s [] = R)) :
    Calls Try.prog 62 #[.pointer (some ⟨m, 0, none⟩), .func (.func 63) #[] #[.pointer (some ⟨gs, 0, none⟩)]] w0 fun e' w' => scanE w0 n0 m gx gb Af nf cf a b c d e fs L NA NB gs R e' w' := by
  obtain ⟨hm, g3, g4, g1, g2, g6⟩ := hC.geo
  have hB0 : 0 < NB := by omega
  have hB8 : NB ≤ 8 := by omega
  have hA20 : NA ≤ 20 := by omega
  have hA0 : 0 < NA := by omega
  have hAB2 : NA * NB ≤ 160 := Nat.mul_le_mul hA20 hB8
  have hAB0 : 0 < NA * NB := Nat.mul_pos hA0 hB0
  have HM := Lib.hid hm
  have hlow := hC.low
  have HLAB := Lib.hid (And.intro hNA hNB)
  clear hm
  have HBW : Below w0.heap.size w0 ((w0.alloc (.cells #[.int .i64 0, .int .i64 0] 53)).alloc (.cells #[.slice none 0 0, .int .i64 0, .int .i64 0, .int .i64 0, .int .i64 0, .int .i64 0] 99)) := ((Below.refl _ _).alloc (Nat.le_refl _) _).alloc (by simp) _
  have HP3 : Blk ((w0.alloc (.cells #[.int .i64 0, .int .i64 0] 53)).alloc (.cells #[.slice none 0 0, .int .i64 0, .int .i64 0, .int .i64 0, .int .i64 0, .int .i64 0] 99)) w0.heap.size 53 #[.int .i64 0, .int .i64 0] := (Blk.new_ w0 _ _).alloc_ _
  have HP4 : Blk ((w0.alloc (.cells #[.int .i64 0, .int .i64 0] 53)).alloc (.cells #[.slice none 0 0, .int .i64 0, .int .i64 0, .int .i64 0, .int .i64 0, .int .i64 0] 99)) (w0.heap.size + 1) 99 #[.slice none 0 0, .int .i64 0, .int .i64 0, .int .i64 0, .int .i64 0, .int .i64 0] := blk_new (by simp)
  go_enter Try.func62, Try.ntmps62
  go_wp2
  refine wp_scope_many (scanJ w0 n0 m gx gb Af nf cf a b c d e fs L NA NB gs R) ?_ ?_
  · intro l N a' wr hJ hcut
    have HC := Lib.hid hcut
    clear hcut
    rcases hJ with ⟨rfl, hJ⟩ | ⟨rfl, hJ⟩
    · obtain ⟨i, S, acc, x, y, u, rfl, hE, hW, hN⟩ := hJ
      refine ⟨_, (by simp only [findLabel, Nat.reduceBEq, if_true, if_false, Bool.false_eq_true]; rfl), ?_⟩
      have hi := hE.lt
      have z0 := hE.pl.cell_ 0
      have z1 := hE.pl.cell_ 1
      simp at z0 z1
      obtain ⟨v0, v1, v2, v3, v4, v5, hpg⟩ := hE.pg
      have hstep : NA * NB - i = (NA * NB - (i + 1)) + 1 := by omega
      have HST := Lib.hid hstep
      clear hstep
      rcases (by cases hq : badB fs x <;> simp : badB fs x = true ∨ badB fs x = false) with hb | hb
      · have HBD := Lib.hid hb
        have HW0 : Hid (walkF a b c NB fs (NA * NB - (i + 1)) (i + 1) S acc = R) := Lib.hid (by have h := hW.out; rw [HST.out, walkF_bad (by rw [← hE.px]; exact hb)] at h; exact h)
        clear hb
        go_wp2_with (go_at_call 12; ((with_reducible refine (bad_v0 m gx gb Af nf cf a b c d e fs _ _ _ S hE.chip.chip HBD).mono ?_); rintro e' wB ⟨rfl, hbB⟩; have hplB := hE.pl.below hbB hE.pl.lt; have zb0 := hplB.cell_ 0; have zb1 := hplB.cell_ 1; simp at zb0 zb1))
        go_step3
        exact (show ∃ m', m' < N ∧ scanJ w0 n0 m gx gb Af nf cf a b c d e fs L NA NB gs R 0 m' _ _ from ⟨2 * (NA * NB - i), by omega, Or.inr ⟨rfl, scanJ0.mk ⟨⟨hE.chip.below_ hbB, hE.pl.below hbB hE.pl.lt, ⟨_, _, _, _, _, _, hpg.below hbB hpg.lt⟩, capK hE.cap (Tch.of_below (S := fun _ => False) hbB) (fun g hg hS => hS), Nat.le_succ_of_le hE.alen, hE.tch.then hbB, hE.good.mono (by omega), hE.by8, hE.lt, hE.px, hE.py⟩, HW0, Nat.le_refl _⟩⟩⟩)
      have HBD := Lib.hid hb
      obtain ⟨Z, hz⟩ : ∃ Z, S.readZ a b x y = Z := ⟨_, rfl⟩
      obtain ⟨S1, hs1⟩ : ∃ S1, S.readS a b x y = S1 := ⟨_, rfl⟩
      have HG1 : Hid (Good S1 (n0 + 3 + 3 * (i : Int))) := Lib.hid (by rw [← hs1]; exact (hE.good.read a b x y).mono (by omega))
      have HB1 : Hid (Bytes8 S1.X) := Lib.hid (by rw [← hs1, readS_X]; exact hE.by8)
      have hsz : w0.heap.size ≤ wr.heap.size := hE.tch.size
      by_cases hne : Z = 0
      · subst hne
        obtain ⟨bs, hbs⟩ : ∃ bs, S.readB a b c x y = bs := ⟨_, rfl⟩
        have H8B : Bytes8 bs := by rw [← hbs]; exact readB_8 hE.by8 a b c x y
        have HLB : bs.length ≤ 1000000 := by rw [← hbs]; exact readB_le S a b c x y g6
        have HZ := Lib.hid (And.intro hz (And.intro hbs hs1))
        obtain ⟨Dq, nq, Kq, Pq, Sq, Eq, stq, hlk⟩ := Lk.ex bs
        have HLK := Lib.hid hlk
        have HW0 : Hid (walkF a b c NB fs (NA * NB - (i + 1)) (i + 1) S1 (acc ++ [(i / NB, i % NB, bs)]) = R) := Lib.hid (by have h := hW.out; rw [HST.out, walkF_ok (S1 := S1) (bs := bs) (by rw [← hE.px]; exact hb) (by rw [← hE.px, ← hE.py]; exact hz) (by rw [← hE.px, ← hE.py]; exact hs1) (by rw [← hE.px, ← hE.py]; exact hbs)] at h; exact h)
        have HLI : Hid ((fdsOf acc ++ if stq = 1 then [(⟨((i / NB : Nat) : Int), ((i % NB : Nat) : Int), (Kq : Int), (Pq : Int), (Sq : Int), (Eq : Int)⟩ : Fd)] else []) = (if (stq : Int) = 1 then fdsOf acc ++ [(⟨x, y, (Kq : Int), (Pq : Int), (Sq : Int), (Eq : Int)⟩ : Fd)] else fdsOf acc)) := Lib.hid (by
          rw [hE.px, hE.py]
          by_cases h1 : stq = 1
          · rw [if_pos h1, if_pos (by omega)]
          · rw [if_neg h1, if_neg (by omega), List.append_nil])
        clear hb hz hs1 hbs hlk
        go_upto_region 9 with (first | (go_at_call 12; ((with_reducible refine (bad_v0 m gx gb Af nf cf a b c d e fs _ _ _ S hE.chip.chip HBD).mono ?_); rintro e' wB ⟨rfl, hbB⟩; have hplB := hE.pl.below hbB hE.pl.lt; have zb0 := hplB.cell_ 0; have zb1 := hplB.cell_ 1; simp at zb0 zb1)) | (go_at_call 68; ((with_reducible refine (look_yes m gx gb Af nf cf a b c d e fs x y (n0 + 3 * (i : Int)) _ S (hE.chip.below_ hbB).chip hE.good.fine (by omega) Dq nq Kq Pq Sq Eq stq S1 bs H8B HLB HZ HLK).mono ?_); rintro e' wL ⟨⟨Aq, cq, rfl, hoq⟩, hCW, hTL⟩; have hCL := (hE.chip.below_ hbB).next hCW; have hG4 := (hpg.below hbB hpg.lt).ch hTL hlow (by omega); have hG3 := (hE.pl.below hbB hE.pl.lt).ch hTL hlow (by omega); have hCP := capK (capK hE.cap (Tch.of_below (S := fun _ => False) hbB) (fun g hg hS => hS)) hTL (fun g hg hS => by have := hlow g hS; rcases hg with rfl | hg <;> omega); have hTT := (hE.tch.then hbB).trans (hTL.mono (S' := (fun g => chB m gx gb g ∨ g = gs ∨ w0.heap.size ≤ g)) (fun g hg => Or.inl hg)); obtain ⟨y0, y1, y2, y3, y4, y5⟩ := cells6 hG4; have y9 := hG4.free)))
        obtain ⟨wz, hwz⟩ : ∃ V : World, V = st6 wL (w0.heap.size + 1) (.slice Aq nq cq) (.int .i64 (Kq : Nat)) (.int .i64 (Pq : Nat)) (.int .i64 (Sq : Nat)) (.int .i64 (Eq : Nat)) (.int .i64 (stq : Nat)) := ⟨_, rfl⟩
        have HZ4 := st6_blk hG4 (.slice Aq nq cq) (.int .i64 (Kq : Nat)) (.int .i64 (Pq : Nat)) (.int .i64 (Sq : Nat)) (.int .i64 (Eq : Nat)) (.int .i64 (stq : Nat))
        have TZ := st6_tch wL (w0.heap.size + 1) (.slice Aq nq cq) (.int .i64 (Kq : Nat)) (.int .i64 (Pq : Nat)) (.int .i64 (Sq : Nat)) (.int .i64 (Eq : Nat)) (.int .i64 (stq : Nat))
        rw [← hwz] at HZ4 TZ
        unfold st6 at hwz
        rw [← hwz]
        clear hwz y0 y1 y2 y3 y4 y5 y9
        have hCZ := hCL.far TZ (fun g hg => by subst hg; omega)
        have hG3Z := TZ.blk hG3 (by omega)
        have hCPZ := capK hCP TZ (fun g hg hS => by subst hS; rcases hg with hg | hg <;> omega)
        have hTZ := hTT.trans (TZ.mono (S' := (fun g => chB m gx gb g ∨ g = gs ∨ w0.heap.size ≤ g)) (fun g hg => by subst hg; exact Or.inr (Or.inr (Nat.le_succ _))))
        have x0 := hG3Z.cell_ 0
        have x1 := hG3Z.cell_ 1
        simp at x0 x1
        obtain ⟨y0, y1, y2, y3, y4, y5⟩ := cells6 HZ4
        go_wp2_with (go_at_call 63; ((with_reducible refine (scan1_any x y (Kq : Nat) (Pq : Nat) (Sq : Nat) (Eq : Nat) (stq : Nat) Aq nq cq gs (w0.heap.size + 2) (fdsOf acc) _ hCPZ (by have := HZ4.lt; omega) (by have := fdsOf_len acc; have := hE.alen; omega)).mono ?_); rintro e' wS ⟨rfl, hCS, hTS⟩; have hcn := hlow))
        rename_i K hK
        go_step3
        show K _ _
        refine hK _ _ ?_
        exact HC.out 0 _ _ _ (show 2 * (NA * NB - i) < N by omega) (Or.inr ⟨rfl, scanJ0.mk ⟨⟨hCZ.far hTS (fun g hg => by rcases hg with hg | hg <;> omega), hTS.blk hG3Z (fun hg => by rcases hg with hg | hg <;> omega), ⟨_, _, _, _, _, _, hTS.blk HZ4 (fun hg => by rcases hg with hg | hg <;> omega)⟩, (by rw [fdsOf_snoc, fdOf_lk HLK.out]; have := hCS; rw [HLI.out]; exact this), by rw [List.length_append]; have := hE.alen; simp; omega, hTZ.trans (hTS.mono (S' := (fun g => chB m gx gb g ∨ g = gs ∨ w0.heap.size ≤ g)) (fun g hg => Or.inr (by rcases hg with hg | hg; exact Or.inl hg; exact Or.inr (by omega)))), HG1.out, HB1.out, hE.lt, hE.px, hE.py⟩, HW0, Nat.le_refl _⟩⟩) _ (by kernel_rfl)
      · have HZ := Lib.hid (And.intro (And.intro hz (And.intro trivial hs1)) hne)
        have HRE : Hid (R = (Z, acc, S1)) := Lib.hid (by have h := hW.out; rw [HST.out, walkF_err (S1 := S1) (Z := Z) (by rw [← hE.px]; exact hb) (by rw [← hE.px, ← hE.py]; exact hz) hne (by rw [← hE.px, ← hE.py]; exact hs1)] at h; exact h.symm)
        have hz1 : (Z == 0) = false := by simpa using hne
        have hz2 : (Z != 0) = true := by simpa using hne
        have hal := hE.alen
        clear hb hz hs1 hne
        go_upto_region 9 with (first | (go_at_call 12; ((with_reducible refine (bad_v0 m gx gb Af nf cf a b c d e fs _ _ _ S hE.chip.chip HBD).mono ?_); rintro e' wB ⟨rfl, hbB⟩; have hplB := hE.pl.below hbB hE.pl.lt; have zb0 := hplB.cell_ 0; have zb1 := hplB.cell_ 1; simp at zb0 zb1)) | (go_at_call 68; ((with_reducible refine (look_no m gx gb Af nf cf a b c d e fs x y (n0 + 3 * (i : Int)) _ S (hE.chip.below_ hbB).chip hE.good.fine (by omega) Z S1 (Lib.hid HZ.out.1) HZ.out.2).mono ?_); rintro e' wL ⟨rfl, hCW, hTL⟩; have hCL := (hE.chip.below_ hbB).next hCW; have hG4 := (hpg.below hbB hpg.lt).ch hTL hlow (by omega); have hG3 := (hE.pl.below hbB hE.pl.lt).ch hTL hlow (by omega); have hCP := capK (capK hE.cap (Tch.of_below (S := fun _ => False) hbB) (fun g hg hS => hS)) hTL (fun g hg hS => by have := hlow g hS; rcases hg with rfl | hg <;> omega); have hTT := (hE.tch.then hbB).trans (hTL.mono (S' := (fun g => chB m gx gb g ∨ g = gs ∨ w0.heap.size ≤ g)) (fun g hg => Or.inl hg)); obtain ⟨y0, y1, y2, y3, y4, y5⟩ := cells6 hG4; have y9 := hG4.free)))
        obtain ⟨wz, hwz⟩ : ∃ V : World, V = st6 wL (w0.heap.size + 1) (.slice none 0 0) (.int .i64 0) (.int .i64 0) (.int .i64 0) (.int .i64 0) (.int .i64 0) := ⟨_, rfl⟩
        have HZ4 := st6_blk hG4 (.slice none 0 0) (.int .i64 0) (.int .i64 0) (.int .i64 0) (.int .i64 0) (.int .i64 0)
        have TZ := st6_tch wL (w0.heap.size + 1) (.slice none 0 0) (.int .i64 0) (.int .i64 0) (.int .i64 0) (.int .i64 0) (.int .i64 0)
        rw [← hwz] at HZ4 TZ
        unfold st6 at hwz
        rw [← hwz]
        clear hwz y0 y1 y2 y3 y4 y5 y9
        have hCZ := hCL.far TZ (fun g hg => by subst hg; omega)
        have hG3Z := TZ.blk hG3 (by omega)
        have hCPZ := capK hCP TZ (fun g hg hS => by subst hS; rcases hg with hg | hg <;> omega)
        have hTZ := hTT.trans (TZ.mono (S' := (fun g => chB m gx gb g ∨ g = gs ∨ w0.heap.size ≤ g)) (fun g hg => by subst hg; exact Or.inr (Or.inr (Nat.le_succ _))))
        go_wp2_with fail
        refine jumpsQ_ret ?_
        go_ret
        unfold scanE
        rw [HRE.out]
        exact ⟨rfl, hCZ.chip, hCPZ, by show acc.length ≤ 160; omega, hTZ.monoL (fun g hg h => by rcases h with h | h | h; exact Or.inl h; exact Or.inr h; omega), HG1.out.mono (by omega), HB1.out⟩
    · obtain ⟨i, S, acc, x, y, u, rfl, hE, hW, hN⟩ := hJ
      refine ⟨_, (by simp only [findLabel, Nat.reduceBEq, if_true, if_false, Bool.false_eq_true]; rfl), ?_⟩
      have hi := hE.lt
      have z0 := hE.pl.cell_ 0
      have z1 := hE.pl.cell_ 1
      simp at z0 z1
      obtain ⟨v0, v1, v2, v3, v4, v5, hpg⟩ := hE.pg
      have hnx : ∀ (X Y : Int) (T : Bool), Hid (X = (if i + 1 < NA * NB then (((i + 1) / NB : Nat) : Int) else 0) ∧ Y = (if i + 1 < NA * NB then (((i + 1) % NB : Nat) : Int) else 0) ∧ T = decide (i + 1 < NA * NB)) → ∀ w : World, Calls Try.prog 69 #[.agg #[.int .i64 a, .int .i64 b, .int .i64 c, .int .i64 d, .int .i64 e], .agg #[.int .i64 x, .int .i64 y]] w fun e' w' => e' = .returned (.tuple #[.agg #[.int .i64 X, .int .i64 Y], .bool T]) ∧ Below w.heap.size w w' := fun X Y T hX w => by
        rw [hE.px, hE.py]
        exact next_at a b c d e NA NB i w HM.out HLAB.out.1 HLAB.out.2 hB0 hi X Y T hX
      by_cases hl : i + 1 < NA * NB
      · obtain ⟨X, hX⟩ : ∃ X : Int, X = (((i + 1) / NB : Nat) : Int) := ⟨_, rfl⟩
        obtain ⟨Y, hY⟩ : ∃ Y : Int, Y = (((i + 1) % NB : Nat) : Int) := ⟨_, rfl⟩
        have hcn := hnx X Y true (Lib.hid ⟨by rw [if_pos hl]; exact hX, by rw [if_pos hl]; exact hY, (decide_eq_true hl).symm⟩)
        have HXY := Lib.hid (And.intro hX hY)
        clear hnx hX hY
        have hCd : ChipW wr.drew m gx gb Af nf cf a b c d e fs S := hE.chip.chip.like
        go_upto_region 12 with fail
        refine wp_region_noPanic ?_
        refine wp_region_held_drew (S := (fun _ => True)) (by kernel_rfl) ?_ (fun hHeld => ?_)
        · exact trivial
        refine tk 0 ⟨some 29, .move (.tmp 0), 26, "leaf.go:98", #[], none⟩ ?_; try simp only [Act.put, pz1, pz2, pz3]
        refine wpAnyH_ready (rs := [1, 2]) (by kernel_rfl) (by simp) ?_
        refine (AllReadyH.cons (o := ⟨some 30, .call { callee := .value (.func 36), args := #[.tmp 29], argTypes := #[26] }, 23, "leaf.go:98", #[⟨0, .data⟩], none⟩) rfl (fun K hK => ?_) (AllReadyH.cons (o := ⟨some 31, .load 53 (.tmp 5), 53, "leaf.go:98", #[], none⟩) rfl (fun K hK => ?_) AllReadyH.nil))
        · go_simp
          (first | (go_at_call 36; ((with_reducible refine (geometry_0 m gx gb Af nf cf a b c d e fs _ S (by first | exact hE.chip.chip | exact hCd)).mono ?_); rintro e' wG ⟨rfl, hbG⟩; (try have hbG := undrew hbG); have hplG := hE.pl.below hbG hE.pl.lt; have k0 := hplG.cell_ 0; have k1 := hplG.cell_ 1; simp at k0 k1)) | (go_at_call 69; ((with_reducible refine (hcn _).mono ?_); rintro e' wX ⟨rfl, hbX⟩; have hplX := hplG.below hbX hplG.lt; have q0 := hplX.cell_ 0; have q1 := hplX.cell_ 1; simp at q0 q1; have q9 := hplX.free)))
          go_wp2_with fail
          refine hK.out _ _ ?_ (fun hNew => ?_)
          · exact trivial
          clear hK K hHeld
          have hHeld := hNew
          clear hNew
          try simp only [Act.put, pz1, pz2, pz3]
          refine wpAnyH_ready (rs := [2]) (by kernel_rfl) (by simp) ?_
          refine AllReadyH.cons (o := ⟨some 31, .load 53 (.tmp 5), 53, "leaf.go:98", #[], none⟩) rfl (fun K hK => ?_) AllReadyH.nil
          go_simp
          skip
          refine hK.out _ _ ?_ (fun hNew => ?_)
          · exact trivial
          clear hK K hHeld
          have hHeld := hNew
          clear hNew
          try simp only [Act.put, pz1, pz2, pz3]
          refine wpAnyH_ready (rs := [3]) (by kernel_rfl) (by simp) ?_
          refine AllReadyH.cons (o := ⟨some 32, .call { callee := .value (.func 69), args := #[.tmp 30, .tmp 31], argTypes := #[23, 53] }, 113, "leaf.go:98", #[⟨1, .data⟩, ⟨2, .data⟩, ⟨1, .chain⟩], none⟩) rfl (fun K hK => ?_) AllReadyH.nil
          go_simp
          (first | (go_at_call 36; ((with_reducible refine (geometry_0 m gx gb Af nf cf a b c d e fs _ S (by first | exact hE.chip.chip | exact hCd)).mono ?_); rintro e' wG ⟨rfl, hbG⟩; (try have hbG := undrew hbG); have hplG := hE.pl.below hbG hE.pl.lt; have k0 := hplG.cell_ 0; have k1 := hplG.cell_ 1; simp at k0 k1)) | (go_at_call 69; ((with_reducible refine (hcn _).mono ?_); rintro e' wX ⟨rfl, hbX⟩; have hplX := hplG.below hbX hplG.lt; have q0 := hplX.cell_ 0; have q1 := hplX.cell_ 1; simp at q0 q1; have q9 := hplX.free)))
          go_wp2_with fail
          refine hK.out _ _ ?_ (fun hNew => ?_)
          · exact trivial
          clear hK K hHeld
          have hHeld := hNew
          clear hNew
          try simp only [Act.put, pz1, pz2, pz3]
          refine tk 4 ⟨some 28, .move (.tmp 32), 113, "leaf.go:98", #[⟨3, .data⟩], none⟩ ?_; try simp only [Act.put, pz1, pz2, pz3]
          refine tk 5 ⟨some 33, .extract (.tmp 28) 0, 53, "leaf.go:98", #[⟨4, .data⟩], none⟩ ?_; try simp only [Act.put, pz1, pz2, pz3]
          refine tk 6 ⟨some 34, .extract (.tmp 28) 1, 4, "leaf.go:98", #[⟨4, .data⟩, { on := 7, ground := Ground.gcOnly Departure.lateStores }], none⟩ ?_; try simp only [Act.put, pz1, pz2, pz3]
          refine wpAnyH_ready (rs := [7]) (by kernel_rfl) (by simp) ?_
          refine AllReadyH.cons (o := ⟨none, .store 53 (.tmp 5) (.tmp 33), 0, "leaf.go:98", #[⟨5, .data⟩, ⟨3, .chain⟩, ⟨0, .phase⟩, ⟨1, .phase⟩, ⟨2, .phase⟩, ⟨3, .phase⟩, ⟨4, .phase⟩, ⟨5, .phase⟩, { on := 6, ground := Ground.textOnly Departure.lateStores }], none⟩) rfl (fun K hK => ?_) AllReadyH.nil
          go_simp
          skip
          refine hK.out _ _ ?_ (fun hNew => ?_)
          · exact trivial
          clear hK K hHeld
          have hHeld := hNew
          clear hNew
          try simp only [Act.put, pz1, pz2, pz3]
          refine tk 8 ⟨some 8, .assign (.tmp 34), 4, "leaf.go:98", #[⟨6, .data⟩, ⟨7, .chain⟩, ⟨0, .phase⟩, ⟨1, .phase⟩, ⟨2, .phase⟩, ⟨3, .phase⟩, ⟨4, .phase⟩, ⟨5, .phase⟩, ⟨6, .phase⟩, ⟨7, .phase⟩], none⟩ ?_; try simp only [Act.put, pz1, pz2, pz3]
          refine wpAnyH_done (by kernel_rfl) ?_ _
          refine NoPanic.normal ?_
          clear hHeld
          go_wp2_with fail
          obtain ⟨wz, hwz⟩ : ∃ V : World, V = (wX.setCell ⟨w0.heap.size, 0, none⟩ (.int .i64 X)).setCell ⟨w0.heap.size, 1, none⟩ (.int .i64 Y) := ⟨_, rfl⟩
          have HZ3 : Blk ((wX.setCell ⟨w0.heap.size, 0, none⟩ (.int .i64 X)).setCell ⟨w0.heap.size, 1, none⟩ (.int .i64 Y)) w0.heap.size 53 #[.int .i64 X, .int .i64 Y] := (hplX.set_ 0 (.int .i64 X)).set_ 1 (.int .i64 Y)
          have TZ := (Tch.setm wX w0.heap.size 0 (.int .i64 X)).trans (Tch.setm _ w0.heap.size 1 (.int .i64 Y))
          rw [← hwz] at HZ3 TZ
          rw [← hwz]
          clear hwz
          have hCX := ((hE.chip.below_ hbG).below_ hbX).far TZ (fun g hg => by subst hg; omega)
          have hG4X := TZ.blk ((hpg.below hbG hpg.lt).below hbX (hpg.below hbG hpg.lt).lt) (by omega)
          have hCPX := capK (capK (capK hE.cap (Tch.of_below (S := fun _ => False) hbG) (fun g hg hS => hS)) (Tch.of_below (S := fun _ => False) hbX) (fun g hg hS => hS)) TZ (fun g hg hS => by subst hS; rcases hg with hg | hg <;> omega)
          have hTX := ((hE.tch.then hbG).then hbX).trans (TZ.mono (S' := (fun g => chB m gx gb g ∨ g = gs ∨ w0.heap.size ≤ g)) (fun g hg => by subst hg; exact Or.inr (Or.inr (Nat.le_refl _))))
          go_step3
          exact (show ∃ m', m' < N ∧ scanJ w0 n0 m gx gb Af nf cf a b c d e fs L NA NB gs R 1 m' _ _ from ⟨2 * (NA * NB - (i + 1)) + 1, by omega, Or.inl ⟨rfl, scanJ1.mk ⟨⟨hCX, HZ3, ⟨_, _, _, _, _, _, hG4X⟩, hCPX, hE.alen, hTX, hE.good.mono (by omega), hE.by8, hl, HXY.out.1, HXY.out.2⟩, hW, Nat.le_refl _⟩⟩⟩)
        · go_simp
          skip
          refine hK.out _ _ ?_ (fun hNew => ?_)
          · exact trivial
          clear hK K hHeld
          have hHeld := hNew
          clear hNew
          try simp only [Act.put, pz1, pz2, pz3]
          refine wpAnyH_ready (rs := [1]) (by kernel_rfl) (by simp) ?_
          refine AllReadyH.cons (o := ⟨some 30, .call { callee := .value (.func 36), args := #[.tmp 29], argTypes := #[26] }, 23, "leaf.go:98", #[⟨0, .data⟩], none⟩) rfl (fun K hK => ?_) AllReadyH.nil
          go_simp
          (first | (go_at_call 36; ((with_reducible refine (geometry_0 m gx gb Af nf cf a b c d e fs _ S (by first | exact hE.chip.chip | exact hCd)).mono ?_); rintro e' wG ⟨rfl, hbG⟩; (try have hbG := undrew hbG); have hplG := hE.pl.below hbG hE.pl.lt; have k0 := hplG.cell_ 0; have k1 := hplG.cell_ 1; simp at k0 k1)) | (go_at_call 69; ((with_reducible refine (hcn _).mono ?_); rintro e' wX ⟨rfl, hbX⟩; have hplX := hplG.below hbX hplG.lt; have q0 := hplX.cell_ 0; have q1 := hplX.cell_ 1; simp at q0 q1; have q9 := hplX.free)))
          go_wp2_with fail
          refine hK.out _ _ ?_ (fun hNew => ?_)
          · exact trivial
          clear hK K hHeld
          have hHeld := hNew
          clear hNew
          try simp only [Act.put, pz1, pz2, pz3]
          refine wpAnyH_ready (rs := [3]) (by kernel_rfl) (by simp) ?_
          refine AllReadyH.cons (o := ⟨some 32, .call { callee := .value (.func 69), args := #[.tmp 30, .tmp 31], argTypes := #[23, 53] }, 113, "leaf.go:98", #[⟨1, .data⟩, ⟨2, .data⟩, ⟨1, .chain⟩], none⟩) rfl (fun K hK => ?_) AllReadyH.nil
          go_simp
          (first | (go_at_call 36; ((with_reducible refine (geometry_0 m gx gb Af nf cf a b c d e fs _ S (by first | exact hE.chip.chip | exact hCd)).mono ?_); rintro e' wG ⟨rfl, hbG⟩; (try have hbG := undrew hbG); have hplG := hE.pl.below hbG hE.pl.lt; have k0 := hplG.cell_ 0; have k1 := hplG.cell_ 1; simp at k0 k1)) | (go_at_call 69; ((with_reducible refine (hcn _).mono ?_); rintro e' wX ⟨rfl, hbX⟩; have hplX := hplG.below hbX hplG.lt; have q0 := hplX.cell_ 0; have q1 := hplX.cell_ 1; simp at q0 q1; have q9 := hplX.free)))
          go_wp2_with fail
          refine hK.out _ _ ?_ (fun hNew => ?_)
          · exact trivial
          clear hK K hHeld
          have hHeld := hNew
          clear hNew
          try simp only [Act.put, pz1, pz2, pz3]
          refine tk 4 ⟨some 28, .move (.tmp 32), 113, "leaf.go:98", #[⟨3, .data⟩], none⟩ ?_; try simp only [Act.put, pz1, pz2, pz3]
          refine tk 5 ⟨some 33, .extract (.tmp 28) 0, 53, "leaf.go:98", #[⟨4, .data⟩], none⟩ ?_; try simp only [Act.put, pz1, pz2, pz3]
          refine tk 6 ⟨some 34, .extract (.tmp 28) 1, 4, "leaf.go:98", #[⟨4, .data⟩, { on := 7, ground := Ground.gcOnly Departure.lateStores }], none⟩ ?_; try simp only [Act.put, pz1, pz2, pz3]
          refine wpAnyH_ready (rs := [7]) (by kernel_rfl) (by simp) ?_
          refine AllReadyH.cons (o := ⟨none, .store 53 (.tmp 5) (.tmp 33), 0, "leaf.go:98", #[⟨5, .data⟩, ⟨3, .chain⟩, ⟨0, .phase⟩, ⟨1, .phase⟩, ⟨2, .phase⟩, ⟨3, .phase⟩, ⟨4, .phase⟩, ⟨5, .phase⟩, { on := 6, ground := Ground.textOnly Departure.lateStores }], none⟩) rfl (fun K hK => ?_) AllReadyH.nil
          go_simp
          skip
          refine hK.out _ _ ?_ (fun hNew => ?_)
          · exact trivial
          clear hK K hHeld
          have hHeld := hNew
          clear hNew
          try simp only [Act.put, pz1, pz2, pz3]
          refine tk 8 ⟨some 8, .assign (.tmp 34), 4, "leaf.go:98", #[⟨6, .data⟩, ⟨7, .chain⟩, ⟨0, .phase⟩, ⟨1, .phase⟩, ⟨2, .phase⟩, ⟨3, .phase⟩, ⟨4, .phase⟩, ⟨5, .phase⟩, ⟨6, .phase⟩, ⟨7, .phase⟩], none⟩ ?_; try simp only [Act.put, pz1, pz2, pz3]
          refine wpAnyH_done (by kernel_rfl) ?_ _
          refine NoPanic.normal ?_
          clear hHeld
          go_wp2_with fail
          obtain ⟨wz, hwz⟩ : ∃ V : World, V = (wX.setCell ⟨w0.heap.size, 0, none⟩ (.int .i64 X)).setCell ⟨w0.heap.size, 1, none⟩ (.int .i64 Y) := ⟨_, rfl⟩
          have HZ3 : Blk ((wX.setCell ⟨w0.heap.size, 0, none⟩ (.int .i64 X)).setCell ⟨w0.heap.size, 1, none⟩ (.int .i64 Y)) w0.heap.size 53 #[.int .i64 X, .int .i64 Y] := (hplX.set_ 0 (.int .i64 X)).set_ 1 (.int .i64 Y)
          have TZ := (Tch.setm wX w0.heap.size 0 (.int .i64 X)).trans (Tch.setm _ w0.heap.size 1 (.int .i64 Y))
          rw [← hwz] at HZ3 TZ
          rw [← hwz]
          clear hwz
          have hCX := ((hE.chip.below_ hbG).below_ hbX).far TZ (fun g hg => by subst hg; omega)
          have hG4X := TZ.blk ((hpg.below hbG hpg.lt).below hbX (hpg.below hbG hpg.lt).lt) (by omega)
          have hCPX := capK (capK (capK hE.cap (Tch.of_below (S := fun _ => False) hbG) (fun g hg hS => hS)) (Tch.of_below (S := fun _ => False) hbX) (fun g hg hS => hS)) TZ (fun g hg hS => by subst hS; rcases hg with hg | hg <;> omega)
          have hTX := ((hE.tch.then hbG).then hbX).trans (TZ.mono (S' := (fun g => chB m gx gb g ∨ g = gs ∨ w0.heap.size ≤ g)) (fun g hg => by subst hg; exact Or.inr (Or.inr (Nat.le_refl _))))
          go_step3
          exact (show ∃ m', m' < N ∧ scanJ w0 n0 m gx gb Af nf cf a b c d e fs L NA NB gs R 1 m' _ _ from ⟨2 * (NA * NB - (i + 1)) + 1, by omega, Or.inl ⟨rfl, scanJ1.mk ⟨⟨hCX, HZ3, ⟨_, _, _, _, _, _, hG4X⟩, hCPX, hE.alen, hTX, hE.good.mono (by omega), hE.by8, hl, HXY.out.1, HXY.out.2⟩, hW, Nat.le_refl _⟩⟩⟩)
      · have hcn := hnx 0 0 false (Lib.hid ⟨by rw [if_neg hl], by rw [if_neg hl], (decide_eq_false hl).symm⟩)
        have HRE : Hid (R = (0, acc, S)) := Lib.hid (by have h := hW.out; rw [show NA * NB - (i + 1) = 0 by omega] at h; exact h.symm)
        have hal := hE.alen
        have hCd : ChipW wr.drew m gx gb Af nf cf a b c d e fs S := hE.chip.chip.like
        clear hnx
        go_upto_region 12 with fail
        refine wp_region_noPanic ?_
        refine wp_region_held_drew (S := (fun _ => True)) (by kernel_rfl) ?_ (fun hHeld => ?_)
        · exact trivial
        refine tk 0 ⟨some 29, .move (.tmp 0), 26, "leaf.go:98", #[], none⟩ ?_; try simp only [Act.put, pz1, pz2, pz3]
        refine wpAnyH_ready (rs := [1, 2]) (by kernel_rfl) (by simp) ?_
        refine (AllReadyH.cons (o := ⟨some 30, .call { callee := .value (.func 36), args := #[.tmp 29], argTypes := #[26] }, 23, "leaf.go:98", #[⟨0, .data⟩], none⟩) rfl (fun K hK => ?_) (AllReadyH.cons (o := ⟨some 31, .load 53 (.tmp 5), 53, "leaf.go:98", #[], none⟩) rfl (fun K hK => ?_) AllReadyH.nil))
        · go_simp
          (first | (go_at_call 36; ((with_reducible refine (geometry_0 m gx gb Af nf cf a b c d e fs _ S (by first | exact hE.chip.chip | exact hCd)).mono ?_); rintro e' wG ⟨rfl, hbG⟩; (try have hbG := undrew hbG); have hplG := hE.pl.below hbG hE.pl.lt; have k0 := hplG.cell_ 0; have k1 := hplG.cell_ 1; simp at k0 k1)) | (go_at_call 69; ((with_reducible refine (hcn _).mono ?_); rintro e' wX ⟨rfl, hbX⟩; have hplX := hplG.below hbX hplG.lt; have q0 := hplX.cell_ 0; have q1 := hplX.cell_ 1; simp at q0 q1; have q9 := hplX.free)))
          go_wp2_with fail
          refine hK.out _ _ ?_ (fun hNew => ?_)
          · exact trivial
          clear hK K hHeld
          have hHeld := hNew
          clear hNew
          try simp only [Act.put, pz1, pz2, pz3]
          refine wpAnyH_ready (rs := [2]) (by kernel_rfl) (by simp) ?_
          refine AllReadyH.cons (o := ⟨some 31, .load 53 (.tmp 5), 53, "leaf.go:98", #[], none⟩) rfl (fun K hK => ?_) AllReadyH.nil
          go_simp
          skip
          refine hK.out _ _ ?_ (fun hNew => ?_)
          · exact trivial
          clear hK K hHeld
          have hHeld := hNew
          clear hNew
          try simp only [Act.put, pz1, pz2, pz3]
          refine wpAnyH_ready (rs := [3]) (by kernel_rfl) (by simp) ?_
          refine AllReadyH.cons (o := ⟨some 32, .call { callee := .value (.func 69), args := #[.tmp 30, .tmp 31], argTypes := #[23, 53] }, 113, "leaf.go:98", #[⟨1, .data⟩, ⟨2, .data⟩, ⟨1, .chain⟩], none⟩) rfl (fun K hK => ?_) AllReadyH.nil
          go_simp
          (first | (go_at_call 36; ((with_reducible refine (geometry_0 m gx gb Af nf cf a b c d e fs _ S (by first | exact hE.chip.chip | exact hCd)).mono ?_); rintro e' wG ⟨rfl, hbG⟩; (try have hbG := undrew hbG); have hplG := hE.pl.below hbG hE.pl.lt; have k0 := hplG.cell_ 0; have k1 := hplG.cell_ 1; simp at k0 k1)) | (go_at_call 69; ((with_reducible refine (hcn _).mono ?_); rintro e' wX ⟨rfl, hbX⟩; have hplX := hplG.below hbX hplG.lt; have q0 := hplX.cell_ 0; have q1 := hplX.cell_ 1; simp at q0 q1; have q9 := hplX.free)))
          go_wp2_with fail
          refine hK.out _ _ ?_ (fun hNew => ?_)
          · exact trivial
          clear hK K hHeld
          have hHeld := hNew
          clear hNew
          try simp only [Act.put, pz1, pz2, pz3]
          refine tk 4 ⟨some 28, .move (.tmp 32), 113, "leaf.go:98", #[⟨3, .data⟩], none⟩ ?_; try simp only [Act.put, pz1, pz2, pz3]
          refine tk 5 ⟨some 33, .extract (.tmp 28) 0, 53, "leaf.go:98", #[⟨4, .data⟩], none⟩ ?_; try simp only [Act.put, pz1, pz2, pz3]
          refine tk 6 ⟨some 34, .extract (.tmp 28) 1, 4, "leaf.go:98", #[⟨4, .data⟩, { on := 7, ground := Ground.gcOnly Departure.lateStores }], none⟩ ?_; try simp only [Act.put, pz1, pz2, pz3]
          refine wpAnyH_ready (rs := [7]) (by kernel_rfl) (by simp) ?_
          refine AllReadyH.cons (o := ⟨none, .store 53 (.tmp 5) (.tmp 33), 0, "leaf.go:98", #[⟨5, .data⟩, ⟨3, .chain⟩, ⟨0, .phase⟩, ⟨1, .phase⟩, ⟨2, .phase⟩, ⟨3, .phase⟩, ⟨4, .phase⟩, ⟨5, .phase⟩, { on := 6, ground := Ground.textOnly Departure.lateStores }], none⟩) rfl (fun K hK => ?_) AllReadyH.nil
          go_simp
          skip
          refine hK.out _ _ ?_ (fun hNew => ?_)
          · exact trivial
          clear hK K hHeld
          have hHeld := hNew
          clear hNew
          try simp only [Act.put, pz1, pz2, pz3]
          refine tk 8 ⟨some 8, .assign (.tmp 34), 4, "leaf.go:98", #[⟨6, .data⟩, ⟨7, .chain⟩, ⟨0, .phase⟩, ⟨1, .phase⟩, ⟨2, .phase⟩, ⟨3, .phase⟩, ⟨4, .phase⟩, ⟨5, .phase⟩, ⟨6, .phase⟩, ⟨7, .phase⟩], none⟩ ?_; try simp only [Act.put, pz1, pz2, pz3]
          refine wpAnyH_done (by kernel_rfl) ?_ _
          refine NoPanic.normal ?_
          clear hHeld
          go_wp2_with fail
          obtain ⟨wz, hwz⟩ : ∃ V : World, V = (wX.setCell ⟨w0.heap.size, 0, none⟩ (.int .i64 0)).setCell ⟨w0.heap.size, 1, none⟩ (.int .i64 0) := ⟨_, rfl⟩
          have HZ3 : Blk ((wX.setCell ⟨w0.heap.size, 0, none⟩ (.int .i64 0)).setCell ⟨w0.heap.size, 1, none⟩ (.int .i64 0)) w0.heap.size 53 #[.int .i64 0, .int .i64 0] := (hplX.set_ 0 (.int .i64 0)).set_ 1 (.int .i64 0)
          have TZ := (Tch.setm wX w0.heap.size 0 (.int .i64 0)).trans (Tch.setm _ w0.heap.size 1 (.int .i64 0))
          rw [← hwz] at HZ3 TZ
          rw [← hwz]
          clear hwz
          have hCX := ((hE.chip.below_ hbG).below_ hbX).far TZ (fun g hg => by subst hg; omega)
          have hG4X := TZ.blk ((hpg.below hbG hpg.lt).below hbX (hpg.below hbG hpg.lt).lt) (by omega)
          have hCPX := capK (capK (capK hE.cap (Tch.of_below (S := fun _ => False) hbG) (fun g hg hS => hS)) (Tch.of_below (S := fun _ => False) hbX) (fun g hg hS => hS)) TZ (fun g hg hS => by subst hS; rcases hg with hg | hg <;> omega)
          have hTX := ((hE.tch.then hbG).then hbX).trans (TZ.mono (S' := (fun g => chB m gx gb g ∨ g = gs ∨ w0.heap.size ≤ g)) (fun g hg => by subst hg; exact Or.inr (Or.inr (Nat.le_refl _))))
          refine jumpsQ_ret ?_
          go_ret
          unfold scanE
          rw [HRE.out]
          exact ⟨rfl, hCX.chip, hCPX, by show acc.length ≤ 160; omega, hTX.monoL (fun g hg h => by rcases h with h | h | h; exact Or.inl h; exact Or.inr h; omega), hE.good.mono (by omega), hE.by8⟩
        · go_simp
          skip
          refine hK.out _ _ ?_ (fun hNew => ?_)
          · exact trivial
          clear hK K hHeld
          have hHeld := hNew
          clear hNew
          try simp only [Act.put, pz1, pz2, pz3]
          refine wpAnyH_ready (rs := [1]) (by kernel_rfl) (by simp) ?_
          refine AllReadyH.cons (o := ⟨some 30, .call { callee := .value (.func 36), args := #[.tmp 29], argTypes := #[26] }, 23, "leaf.go:98", #[⟨0, .data⟩], none⟩) rfl (fun K hK => ?_) AllReadyH.nil
          go_simp
          (first | (go_at_call 36; ((with_reducible refine (geometry_0 m gx gb Af nf cf a b c d e fs _ S (by first | exact hE.chip.chip | exact hCd)).mono ?_); rintro e' wG ⟨rfl, hbG⟩; (try have hbG := undrew hbG); have hplG := hE.pl.below hbG hE.pl.lt; have k0 := hplG.cell_ 0; have k1 := hplG.cell_ 1; simp at k0 k1)) | (go_at_call 69; ((with_reducible refine (hcn _).mono ?_); rintro e' wX ⟨rfl, hbX⟩; have hplX := hplG.below hbX hplG.lt; have q0 := hplX.cell_ 0; have q1 := hplX.cell_ 1; simp at q0 q1; have q9 := hplX.free)))
          go_wp2_with fail
          refine hK.out _ _ ?_ (fun hNew => ?_)
          · exact trivial
          clear hK K hHeld
          have hHeld := hNew
          clear hNew
          try simp only [Act.put, pz1, pz2, pz3]
          refine wpAnyH_ready (rs := [3]) (by kernel_rfl) (by simp) ?_
          refine AllReadyH.cons (o := ⟨some 32, .call { callee := .value (.func 69), args := #[.tmp 30, .tmp 31], argTypes := #[23, 53] }, 113, "leaf.go:98", #[⟨1, .data⟩, ⟨2, .data⟩, ⟨1, .chain⟩], none⟩) rfl (fun K hK => ?_) AllReadyH.nil
          go_simp
          (first | (go_at_call 36; ((with_reducible refine (geometry_0 m gx gb Af nf cf a b c d e fs _ S (by first | exact hE.chip.chip | exact hCd)).mono ?_); rintro e' wG ⟨rfl, hbG⟩; (try have hbG := undrew hbG); have hplG := hE.pl.below hbG hE.pl.lt; have k0 := hplG.cell_ 0; have k1 := hplG.cell_ 1; simp at k0 k1)) | (go_at_call 69; ((with_reducible refine (hcn _).mono ?_); rintro e' wX ⟨rfl, hbX⟩; have hplX := hplG.below hbX hplG.lt; have q0 := hplX.cell_ 0; have q1 := hplX.cell_ 1; simp at q0 q1; have q9 := hplX.free)))
          go_wp2_with fail
          refine hK.out _ _ ?_ (fun hNew => ?_)
          · exact trivial
          clear hK K hHeld
          have hHeld := hNew
          clear hNew
          try simp only [Act.put, pz1, pz2, pz3]
          refine tk 4 ⟨some 28, .move (.tmp 32), 113, "leaf.go:98", #[⟨3, .data⟩], none⟩ ?_; try simp only [Act.put, pz1, pz2, pz3]
          refine tk 5 ⟨some 33, .extract (.tmp 28) 0, 53, "leaf.go:98", #[⟨4, .data⟩], none⟩ ?_; try simp only [Act.put, pz1, pz2, pz3]
          refine tk 6 ⟨some 34, .extract (.tmp 28) 1, 4, "leaf.go:98", #[⟨4, .data⟩, { on := 7, ground := Ground.gcOnly Departure.lateStores }], none⟩ ?_; try simp only [Act.put, pz1, pz2, pz3]
          refine wpAnyH_ready (rs := [7]) (by kernel_rfl) (by simp) ?_
          refine AllReadyH.cons (o := ⟨none, .store 53 (.tmp 5) (.tmp 33), 0, "leaf.go:98", #[⟨5, .data⟩, ⟨3, .chain⟩, ⟨0, .phase⟩, ⟨1, .phase⟩, ⟨2, .phase⟩, ⟨3, .phase⟩, ⟨4, .phase⟩, ⟨5, .phase⟩, { on := 6, ground := Ground.textOnly Departure.lateStores }], none⟩) rfl (fun K hK => ?_) AllReadyH.nil
          go_simp
          skip
          refine hK.out _ _ ?_ (fun hNew => ?_)
          · exact trivial
          clear hK K hHeld
          have hHeld := hNew
          clear hNew
          try simp only [Act.put, pz1, pz2, pz3]
          refine tk 8 ⟨some 8, .assign (.tmp 34), 4, "leaf.go:98", #[⟨6, .data⟩, ⟨7, .chain⟩, ⟨0, .phase⟩, ⟨1, .phase⟩, ⟨2, .phase⟩, ⟨3, .phase⟩, ⟨4, .phase⟩, ⟨5, .phase⟩, ⟨6, .phase⟩, ⟨7, .phase⟩], none⟩ ?_; try simp only [Act.put, pz1, pz2, pz3]
          refine wpAnyH_done (by kernel_rfl) ?_ _
          refine NoPanic.normal ?_
          clear hHeld
          go_wp2_with fail
          obtain ⟨wz, hwz⟩ : ∃ V : World, V = (wX.setCell ⟨w0.heap.size, 0, none⟩ (.int .i64 0)).setCell ⟨w0.heap.size, 1, none⟩ (.int .i64 0) := ⟨_, rfl⟩
          have HZ3 : Blk ((wX.setCell ⟨w0.heap.size, 0, none⟩ (.int .i64 0)).setCell ⟨w0.heap.size, 1, none⟩ (.int .i64 0)) w0.heap.size 53 #[.int .i64 0, .int .i64 0] := (hplX.set_ 0 (.int .i64 0)).set_ 1 (.int .i64 0)
          have TZ := (Tch.setm wX w0.heap.size 0 (.int .i64 0)).trans (Tch.setm _ w0.heap.size 1 (.int .i64 0))
          rw [← hwz] at HZ3 TZ
          rw [← hwz]
          clear hwz
          have hCX := ((hE.chip.below_ hbG).below_ hbX).far TZ (fun g hg => by subst hg; omega)
          have hG4X := TZ.blk ((hpg.below hbG hpg.lt).below hbX (hpg.below hbG hpg.lt).lt) (by omega)
          have hCPX := capK (capK (capK hE.cap (Tch.of_below (S := fun _ => False) hbG) (fun g hg hS => hS)) (Tch.of_below (S := fun _ => False) hbX) (fun g hg hS => hS)) TZ (fun g hg hS => by subst hS; rcases hg with hg | hg <;> omega)
          have hTX := ((hE.tch.then hbG).then hbX).trans (TZ.mono (S' := (fun g => chB m gx gb g ∨ g = gs ∨ w0.heap.size ≤ g)) (fun g hg => by subst hg; exact Or.inr (Or.inr (Nat.le_refl _))))
          refine jumpsQ_ret ?_
          go_ret
          unfold scanE
          rw [HRE.out]
          exact ⟨rfl, hCX.chip, hCPX, by show acc.length ≤ 160; omega, hTX.monoL (fun g hg h => by rcases h with h | h | h; exact Or.inl h; exact Or.inr h; omega), hE.good.mono (by omega), hE.by8⟩
  · intro hcut
    have HC := Lib.hid hcut
    clear hcut
    go_wp2
    rename_i K hK
    go_step3
    show K _ _
    refine hK _ _ ?_
    exact HC.out 1 _ _ _ (Or.inl ⟨rfl, scanJ1.mk ⟨⟨hC.below_ HBW, HP3, ⟨_, _, _, _, _, _, HP4⟩, capK hcap (Tch.of_below (S := fun _ => False) HBW) (fun g hg hS => hS), Nat.zero_le _, Tch.of_below HBW, hg.mono (by omega), h8, hAB0, by rw [Nat.zero_div]; rfl, by rw [Nat.zero_mod]; rfl⟩, hR, Nat.le_refl _⟩⟩) _ (by kernel_rfl)
end Go.Proofs.Ytdfojhkpfbnmgaa
namespace Go.Proofs.Ytdfojhkpfbnmgaa
open Go.ChangeShapes Go.WideShapes Go.ChangeAt Go.RowKit
attribute [local go_sem ↓] Go.wp_at_zero Go.wp_at_succ
structure Evcount (w0 : World) (n0 : Int) (m gx gb : Nat) (Af : Option Addr) (nf cf : Nat) (a b c d e : Int) (fs : List Flt) (L NA NB ga gb2 gc : Nat) (R : Int × List Vis × ChS) (wr : World) (i : Nat) (S : ChS) (acc : List Vis) (x y : Int) : Prop where
  chip : ChN wr L m gx gb Af nf cf a b c d e fs S
  pl : Blk wr w0.heap.size 53 #[.int .i64 x, .int .i64 y]
  pg : ∃ v0 v1 v2 v3 v4 v5, Blk wr (w0.heap.size + 1) 99 #[v0, v1, v2, v3, v4, v5]
  cap : (Cnt wr ga gb2 gc (cnt (fun s => s == 0) acc) (cnt (fun s => s == 1) acc) (cnt (fun s => !(s == 0 || s == 1)) acc))
  alen : acc.length ≤ i
  tch : Tch (fun g => chB m gx gb g ∨ cB ga gb2 gc g ∨ w0.heap.size ≤ g) w0 wr
  good : Good S (n0 + 3 * (i : Int))
  by8 : Bytes8 S.X
  lt : i < NA * NB
  px : x = ((i / NB : Nat) : Int)
  py : y = ((i % NB : Nat) : Int)
structure Ewcount (w0 : World) (n0 : Int) (m gx gb : Nat) (Af : Option Addr) (nf cf : Nat) (a b c d e : Int) (fs : List Flt) (L NA NB ga gb2 gc : Nat) (R : Int × List Vis × ChS) (wr : World) (i : Nat) (S : ChS) (acc : List Vis) (x y : Int) : Prop where
  chip : ChN wr L m gx gb Af nf cf a b c d e fs S
  pl : Blk wr w0.heap.size 53 #[.int .i64 x, .int .i64 y]
  pg : ∃ v0 v1 v2 v3 v4 v5, Blk wr (w0.heap.size + 1) 99 #[v0, v1, v2, v3, v4, v5]
  cap : (Cnt wr ga gb2 gc (cnt (fun s => s == 0) acc) (cnt (fun s => s == 1) acc) (cnt (fun s => !(s == 0 || s == 1)) acc))
  alen : acc.length ≤ i + 1
  tch : Tch (fun g => chB m gx gb g ∨ cB ga gb2 gc g ∨ w0.heap.size ≤ g) w0 wr
  good : Good S (n0 + 3 + 3 * (i : Int))
  by8 : Bytes8 S.X
  lt : i < NA * NB
  px : x = ((i / NB : Nat) : Int)
  py : y = ((i % NB : Nat) : Int)
def countE (w0 : World) (n0 : Int) (m gx gb : Nat) (Af : Option Addr) (nf cf : Nat) (a b c d e : Int) (fs : List Flt) (L NA NB ga gb2 gc : Nat) (R : Int × List Vis × ChS) (e' : Ending) (w' : World) : Prop := e' = .returned (.int .i64 R.1) ∧ ChipW w' m gx gb Af nf cf a b c d e fs R.2.2 ∧ (Cnt w' ga gb2 gc (cnt (fun s => s == 0) R.2.1) (cnt (fun s => s == 1) R.2.1) (cnt (fun s => !(s == 0 || s == 1)) R.2.1)) ∧ R.2.1.length ≤ 160 ∧ Tch (fun g => chB m gx gb g ∨ cB ga gb2 gc g) w0 w' ∧ Good R.2.2 (n0 + 1000) ∧ Bytes8 R.2.2.X
end Go.Proofs.Ytdfojhkpfbnmgaa
namespace Go.Proofs.Ytdfojhkpfbnmgaa
open Go.ChangeShapes Go.WideShapes Go.ChangeAt Go.RowKit
attribute [local go_sem ↓] Go.wp_at_zero Go.wp_at_succ
theorem scan_ok (m gx gb : Nat) (Af : Option Addr) (nf cf : Nat) (a b c d e : Int) (fs : List Flt) (NA NB : Nat) (n0 : Int) (acc : List Vis) (s S1 : ChS) (w : World) (hC : ChipW w m gx gb Af nf cf a b c d e fs s) (hg : Good s n0) (hn0 : n0 ≤ 800000000) (h8 : Bytes8 s.X) (hNA : (NA : Int) = a) (hNB : (NB : Int) = b) (hR : Hid (walkF a b c NB fs (NA * NB) 0 s [] = (0, acc, S1))) (n : Nat) (hn : Hid ((fdsOf acc).length = n)) :
    Calls Try.prog 44 #[.pointer (some ⟨m, 0, none⟩)] w fun e' w' => (∃ A c', e' = .returned (.tuple #[.slice A n c', .int .i64 0]) ∧ RowFd w' w.heap.size (.slice A n c') (fdsOf acc)) ∧ ChipW w' m gx gb Af nf cf a b c d e fs S1 ∧ Tch (chB m gx gb) w w' ∧ Good S1 (n0 + 1000) ∧ Bytes8 S1.X := by
  have HN := hn
  have hCN := (ChN.start hC).below_ (show Below w.heap.size w (w.alloc (.cells #[.slice none 0 0] 76)) from (Below.refl _ _).alloc (Nat.le_refl _) _)
  have hsz1 : w.heap.size ≤ (w.alloc (.cells #[.slice none 0 0] 76)).heap.size := by simp
  have hB1 : Blk (w.alloc (.cells #[.slice none 0 0] 76)) w.heap.size 76 #[.slice none 0 0] := Blk.new_ _ _ _
  have hgs : w.heap.size ≤ w.heap.size ∧ w.heap.size < (w.alloc (.cells #[.slice none 0 0] 76)).heap.size := ⟨Nat.le_refl _, hB1.lt⟩
  have hcap : Cap (w.alloc (.cells #[.slice none 0 0] 76)) w.heap.size ((w.alloc (.cells #[.slice none 0 0] 76)).heap.size + 2) (fdsOf []) := ⟨⟨_, hB1, RowFd.nil_ _ _⟩, by have := hB1.lt; omega⟩
  have hBW : Below w.heap.size w (w.alloc (.cells #[.slice none 0 0] 76)) := (Below.refl _ _).alloc (Nat.le_refl _) _
  have HNA := Lib.hid (And.intro hNA hNB)
  have hmf : ∀ (fn : Fn) (first cap : Array Value) (w : World), (Instr.makeFunc fn first cap).run Try.prog w = .ok (.func fn first cap) w := fun _ _ _ _ => rfl
  go_enter Try.func44, Try.ntmps44
  go_wp2_with (go_at_call 62; ((with_reducible refine (each_scan (w.alloc (.cells #[.slice none 0 0] 76)) n0 m gx gb Af nf cf a b c d e fs w.heap.size NA NB w.heap.size s (0, acc, S1) hCN hsz1 hgs hcap hg hn0 h8 hNA hNB hR).mono ?_); rintro e' wE hX; obtain ⟨rfl, hCE, hKE, hlE, hTE, hGE, hBE⟩ := hX; obtain ⟨⟨v, hvB, hvR⟩, -⟩ := hKE; obtain ⟨A2, c2, hv, -, -, -⟩ := hvR.sl; rw [HN.out] at hv; subst hv; have z0 := hvB.cell_ 0; simp at z0))
  go_ret2
  refine ⟨⟨_, _, rfl, hvR.base (by simp; omega)⟩, hCE, ?_, hGE, hBE⟩
  exact ((Tch.of_below (S := fun g => chB m gx gb g ∨ g = w.heap.size) hBW).trans hTE).monoL (fun g hg h => by rcases h with h | h; exact h; omega)
end Go.Proofs.Ytdfojhkpfbnmgaa
namespace Go.Proofs.Ytdfojhkpfbnmgaa
def ext (ws : List Int) (good : List Bool) (s : Int) : Nat → Int
  | 0 => -1
  | k + 1 => if good.getD k false = true ∧ (ext ws good s k < 0 ∨ s * ws.getD k 0 < s * ws.getD (ext ws good s k).toNat 0) then (k : Int) else ext ws good s k
def cntW (good : List Bool) : Nat → Nat
  | 0 => 0
  | k + 1 => cntW good k + if good.getD k false = true then 1 else 0
theorem ext_bd (ws : List Int) (good : List Bool) (s : Int) : ∀ k, ext ws good s k = -1 ∨ (0 ≤ ext ws good s k ∧ ext ws good s k < (k : Int))
  | 0 => Or.inl rfl
  | k + 1 => by
    have h := ext_bd ws good s k
    unfold ext
    split
    · right; omega
    · rcases h with h | h
      · left; exact h
      · right; omega
theorem ext_neg (ws : List Int) (good : List Bool) (s : Int) : ∀ k, ext ws good s k < 0 ↔ cntW good k = 0
  | 0 => by simp [ext, cntW]
  | k + 1 => by
    have h := ext_neg ws good s k
    have hb := ext_bd ws good s k
    unfold ext cntW
    cases hg : good.getD k false
    · simpa using h
    · simp only [true_and, if_true]
      constructor
      · intro h2
        split at h2
        · omega
        · rename_i h3
          rw [not_or] at h3
          omega
      · intro h2
        omega
theorem ext_one (ws : List Int) (good : List Bool) (s t : Int) : ∀ k, cntW good k ≤ 1 → ext ws good s k = ext ws good t k
  | 0, _ => rfl
  | k + 1, h => by
    have hs := ext_neg ws good s k
    have ht := ext_neg ws good t k
    unfold ext
    cases hg : good.getD k false
    · simp only [Bool.false_eq_true, false_and, if_false]
      refine ext_one ws good s t k ?_
      unfold cntW at h
      omega
    · unfold cntW at h
      rw [hg] at h
      simp only [if_true] at h
      have h0 : cntW good k = 0 := by omega
      rw [if_pos ⟨rfl, Or.inl (hs.2 h0)⟩, if_pos ⟨rfl, Or.inl (ht.2 h0)⟩]
def mlen (ws : List Int) (good : List Bool) : Nat := min ws.length good.length
def spreadI (ws : List Int) (good : List Bool) : Int :=
  if ext ws good 1 (mlen ws good) < 0 then 0 else ws.getD (ext ws good (-1) (mlen ws good)).toNat 0 - ws.getD (ext ws good 1 (mlen ws good)).toNat 0
theorem spread_few {ws : List Int} {good : List Bool} (h : cntW good (mlen ws good) < 2) : spreadI ws good = 0 := by
  unfold spreadI
  rw [ext_one ws good (-1) 1 _ (by omega)]
  split <;> omega
theorem cntW_le (good : List Bool) : ∀ k, cntW good k ≤ k
  | 0 => by simp [cntW]
  | k + 1 => by
    have h := cntW_le good k
    unfold cntW
    split <;> omega
end Go.Proofs.Ytdfojhkpfbnmgaa
