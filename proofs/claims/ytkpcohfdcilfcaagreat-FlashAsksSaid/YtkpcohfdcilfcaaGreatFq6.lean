/- tag.Read: what a raw page reads as, by contracts. -/
import Derived.Test.YtkpcohfdcilfcaaGreatFq5
import Derived.Test.YtkpcohfdcilfcaaGreatFq1
import Derived.Test.YtkpcohfdcilfcaaGreatFq4
import Derived.Deep.RegionHeld3
import Derived.Deep.DrawnRows
import Derived.Deep.DeepCutAuto
import Derived.Laws.BytesString
import Derived.Laws.BytesArg
import Derived.Laws.Cells
import Derived.Laws.Strings
import Derived.Maps.AppendAt
import Derived.Deep.CutBlock
import Derived.StillTailTactics
set_option linter.unusedSimpArgs false
set_option linter.unusedVariables false
set_option maxRecDepth 100000
set_option maxHeartbeats 16000000
namespace Go.Proofs.YtkpcohfdcilfcaaGreat
open Go.ChangeShapes Go.WideShapes Go.ChangeAt Go.RowKit
attribute [local go_sem ↓] Go.wp_at_zero Go.wp_at_succ
theorem sl_sub {w : World} {B b o : Nat} {vs : List Value} (h : Sl w B (some ⟨b, o, none⟩) vs) (i n : Nat) : Sl w B (some ⟨b, o + i, none⟩) ((vs.drop i).take n) := by
  rcases h with h | ⟨b', off, e, hlt, hc⟩
  · exact Or.inl (by rw [h]; simp)
  · cases e
    refine Or.inr ⟨b, o + i, rfl, hlt, fun k v hv => ?_⟩
    rw [List.getElem?_take] at hv
    split at hv
    · rw [List.getElem?_drop] at hv
      have := hc (i + k) v hv
      rwa [← Nat.add_assoc] at this
    · cases hv
theorem held_of {w w' : World} (h : Below w.heap.size w w') : Below w.heap.size w w' ∧ w.heap.size ≤ w'.heap.size ∧ ∀ (k o : Nat), k < w.heap.size → w'.cell? ⟨k, o, none⟩ = w.cell? ⟨k, o, none⟩ := ⟨h, h.size, fun k o hk => h.cell (p := ⟨k, o, none⟩) hk⟩
theorem number_n (bs : List Nat) (n : Nat) (hn : bs.length = n) (A : Option Addr) (c : Nat) (w : World) (h1 : Sl w w.heap.size A (bs.map byteV)) (h8 : Bytes8 bs) (n1 : n ≤ 4) :
    Calls Tryz.prog 187 #[.slice A n c] w fun e w' => e = .returned (.int .i64 (numB bs)) ∧ w = w' := by
  subst hn
  exact number_any bs A c w h1 h8 n1
def part (tl : List Nat) (i n : Nat) : List Nat := (tl.drop i).take n
theorem part_len {tl : List Nat} {i n : Nat} (h : i + n ≤ tl.length) : (part tl i n).length = n := by simp [part]; omega
theorem part_8 {tl : List Nat} (h : Bytes8 tl) (i n : Nat) : Bytes8 (part tl i n) := fun b hb => h b (List.mem_of_mem_drop (List.mem_of_mem_take hb))
theorem part_map (tl : List Nat) (i n : Nat) : (part tl i n).map byteV = ((tl.map byteV).drop i).take n := by simp [part, List.map_take, List.map_drop]
def tK (tl : List Nat) : Nat := tl.getD 1 0
def tP (tl : List Nat) : Nat := numB (part tl 2 2)
def tS (tl : List Nat) : Nat := numB (part tl 4 4)
def tE (tl : List Nat) : Nat := numB (part tl 8 3)
theorem parse_any (tl : List Nat) (b o c : Nat) (w : World) (h1 : Sl w w.heap.size (some ⟨b, o, none⟩) (tl.map byteV)) (h8 : Bytes8 tl) (hl : tl.length = 16) (hc : 16 ≤ c) (hc2 : c ≤ maxLen) :
    Calls Tryz.prog 179 #[.slice (some ⟨b, o, none⟩) 16 c] w fun e' w' => e' = .returned (.agg #[.int .i64 (tK tl), .int .i64 (tP tl), .int .i64 (tS tl), .int .i64 (tE tl)]) ∧ Below w.heap.size w w' := by
  unfold maxLen at hc2
  obtain ⟨b', o', hA, lb, q⟩ := h1.at_ (by simp; omega)
  cases hA
  have c1 : w.cell? ⟨b, o + 1, none⟩ = some (.int .u8 (tK tl : Nat)) := q 1 _ (by simp [tK, byteV, show 1 < tl.length by omega])
  have hk8 : (tK tl) < 256 := Bytes8.at_ h8 1
  have k1 : ((tK tl : Nat) : Int) < 256 := by omega
  have k0 : (0 : Int) ≤ ((tK tl : Nat) : Int) := by omega
  have P1 : Sl w w.heap.size (some ⟨b, o + 2, none⟩) ((part tl 2 2).map byteV) := by rw [part_map]; exact sl_sub h1 2 2
  have P2 : Sl w w.heap.size (some ⟨b, o + 4, none⟩) ((part tl 4 4).map byteV) := by rw [part_map]; exact sl_sub h1 4 4
  have P3 : Sl w w.heap.size (some ⟨b, o + 8, none⟩) ((part tl 8 3).map byteV) := by rw [part_map]; exact sl_sub h1 8 3
  have L1 : Hid ((part tl 2 2).length = 2) := Lib.hid (part_len (by omega))
  have L2 : Hid ((part tl 4 4).length = 4) := Lib.hid (part_len (by omega))
  have L3 : Hid ((part tl 8 3).length = 3) := Lib.hid (part_len (by omega))
  have hcc : (16 : Int) ≤ (c : Int) := by omega
  have q4 : (4 : Int) ≤ (c : Int) := by omega
  have q8 : (8 : Int) ≤ (c : Int) := by omega
  have q11 : (11 : Int) ≤ (c : Int) := by omega
  have n2 : ¬ c = 2 := by omega
  have n4 : ¬ c = 4 := by omega
  have n8 : ¬ c = 8 := by omega
  have ww : IntKind.i64.wrap ((tK tl : Nat) : Int) = ((tK tl : Nat) : Int) := IntWalk.i64_in _ (by omega)
  have hw : ∀ (B : Nat) (wx : World), wx = w → True := fun _ _ _ => trivial
  clear hl q hw
  go_enter Tryz.func179, Tryz.ntmps179
  go_wp2_with fail
  refine wp_region_noPanic ?_
  refine wp_region_held_drew (S := (fun w' => Below w.heap.size w w' ∧ w.heap.size ≤ w'.heap.size ∧ ∀ (k o : Nat), k < w.heap.size → w'.cell? ⟨k, o, none⟩ = w.cell? ⟨k, o, none⟩)) (by kernel_rfl) ?_ (fun hHeld => ?_)
  · (first | assumption | exact held_of (((Below.refl w.heap.size w).alloc (Nat.le_refl _) _).drew) | exact held_of ((Below.refl w.heap.size w).alloc (Nat.le_refl _) _))
  refine tk 0 ?_; try simp only [Act.put, pz1, pz2, pz3]
  refine tk 1 ?_; try simp only [Act.put, pz1, pz2, pz3]
  refine tk 2 ?_; try simp only [Act.put, pz1, pz2, pz3]
  refine tk 3 ?_; try simp only [Act.put, pz1, pz2, pz3]
  refine tk 4 ?_; try simp only [Act.put, pz1, pz2, pz3]
  refine tk 5 ?_; try simp only [Act.put, pz1, pz2, pz3]
  refine tk 7 ?_; try simp only [Act.put, pz1, pz2, pz3]
  refine tk 8 ?_; try simp only [Act.put, pz1, pz2, pz3]
  refine tk 10 ?_; try simp only [Act.put, pz1, pz2, pz3]
  refine tk 11 ?_; try simp only [Act.put, pz1, pz2, pz3]
  refine wpAnyH_ready (rs := [6]) (by kernel_rfl) (by simp) ?_
  refine AllReadyH.cons (o := ⟨some 9, .call { callee := .value (.func 187), args := #[.tmp 8], argTypes := #[37] }, 3, "tag.go:83", #[⟨5, .data⟩], none⟩) rfl (fun K hK => ?_) AllReadyH.nil
  go_simp
  (first
      | (go_at_call 187; ((with_reducible refine (number_n (part tl 2 2) 2 L1.out (some ⟨b, o + 2, none⟩) _ _ (P1.held hHeld.2.1 hHeld.2.2) (part_8 h8 _ _) (by omega)).mono ?_); rintro e' w3 ⟨rfl, rfl⟩))
      | (go_at_call 187; ((with_reducible refine (number_n (part tl 4 4) 4 L2.out (some ⟨b, o + 4, none⟩) _ _ (P2.held hHeld.2.1 hHeld.2.2) (part_8 h8 _ _) (by omega)).mono ?_); rintro e' w3 ⟨rfl, rfl⟩))
      | (go_at_call 187; ((with_reducible refine (number_n (part tl 8 3) 3 L3.out (some ⟨b, o + 8, none⟩) _ _ (P3.held hHeld.2.1 hHeld.2.2) (part_8 h8 _ _) (by omega)).mono ?_); rintro e' w3 ⟨rfl, rfl⟩)))
  go_wp2_with fail
  refine hK.out _ _ ?_ (fun hNew => ?_)
  · (first | assumption | exact held_of (((Below.refl w.heap.size w).alloc (Nat.le_refl _) _).drew) | exact held_of ((Below.refl w.heap.size w).alloc (Nat.le_refl _) _))
  clear hK K hHeld
  have hHeld := hNew
  clear hNew
  try simp only [Act.put, pz1, pz2, pz3]
  refine wpAnyH_ready (rs := [9]) (by kernel_rfl) (by simp) ?_
  refine AllReadyH.cons (o := ⟨some 12, .call { callee := .value (.func 187), args := #[.tmp 11], argTypes := #[37] }, 3, "tag.go:84", #[⟨8, .data⟩, ⟨6, .chain⟩], none⟩) rfl (fun K hK => ?_) AllReadyH.nil
  go_simp
  (first
      | (go_at_call 187; ((with_reducible refine (number_n (part tl 2 2) 2 L1.out (some ⟨b, o + 2, none⟩) _ _ (P1.held hHeld.2.1 hHeld.2.2) (part_8 h8 _ _) (by omega)).mono ?_); rintro e' w3 ⟨rfl, rfl⟩))
      | (go_at_call 187; ((with_reducible refine (number_n (part tl 4 4) 4 L2.out (some ⟨b, o + 4, none⟩) _ _ (P2.held hHeld.2.1 hHeld.2.2) (part_8 h8 _ _) (by omega)).mono ?_); rintro e' w3 ⟨rfl, rfl⟩))
      | (go_at_call 187; ((with_reducible refine (number_n (part tl 8 3) 3 L3.out (some ⟨b, o + 8, none⟩) _ _ (P3.held hHeld.2.1 hHeld.2.2) (part_8 h8 _ _) (by omega)).mono ?_); rintro e' w3 ⟨rfl, rfl⟩)))
  go_wp2_with fail
  refine hK.out _ _ ?_ (fun hNew => ?_)
  · (first | assumption | exact held_of (((Below.refl w.heap.size w).alloc (Nat.le_refl _) _).drew) | exact held_of ((Below.refl w.heap.size w).alloc (Nat.le_refl _) _))
  clear hK K hHeld
  have hHeld := hNew
  clear hNew
  try simp only [Act.put, pz1, pz2, pz3]
  refine wpAnyH_ready (rs := [12]) (by kernel_rfl) (by simp) ?_
  refine AllReadyH.cons (o := ⟨some 15, .call { callee := .value (.func 187), args := #[.tmp 14], argTypes := #[37] }, 3, "tag.go:85", #[⟨11, .data⟩, ⟨9, .chain⟩], none⟩) rfl (fun K hK => ?_) AllReadyH.nil
  go_simp
  (first
      | (go_at_call 187; ((with_reducible refine (number_n (part tl 2 2) 2 L1.out (some ⟨b, o + 2, none⟩) _ _ (P1.held hHeld.2.1 hHeld.2.2) (part_8 h8 _ _) (by omega)).mono ?_); rintro e' w3 ⟨rfl, rfl⟩))
      | (go_at_call 187; ((with_reducible refine (number_n (part tl 4 4) 4 L2.out (some ⟨b, o + 4, none⟩) _ _ (P2.held hHeld.2.1 hHeld.2.2) (part_8 h8 _ _) (by omega)).mono ?_); rintro e' w3 ⟨rfl, rfl⟩))
      | (go_at_call 187; ((with_reducible refine (number_n (part tl 8 3) 3 L3.out (some ⟨b, o + 8, none⟩) _ _ (P3.held hHeld.2.1 hHeld.2.2) (part_8 h8 _ _) (by omega)).mono ?_); rintro e' w3 ⟨rfl, rfl⟩)))
  go_wp2_with fail
  refine hK.out _ _ ?_ (fun hNew => ?_)
  · (first | assumption | exact held_of (((Below.refl w.heap.size w).alloc (Nat.le_refl _) _).drew) | exact held_of ((Below.refl w.heap.size w).alloc (Nat.le_refl _) _))
  clear hK K hHeld
  have hHeld := hNew
  clear hNew
  try simp only [Act.put, pz1, pz2, pz3]
  refine tk 13 ?_; try simp only [Act.put, pz1, pz2, pz3]
  refine wpAnyH_ready (rs := [14]) (by kernel_rfl) (by simp) ?_
  refine AllReadyH.cons (o := ⟨none, .store 109 (.tmp 2) (.tmp 16), 0, "tag.go:81", #[⟨13, .data⟩, ⟨12, .chain⟩, ⟨0, .phase⟩, ⟨1, .phase⟩, ⟨2, .phase⟩, ⟨3, .phase⟩, ⟨4, .phase⟩, ⟨5, .phase⟩, ⟨6, .phase⟩, ⟨7, .phase⟩, ⟨8, .phase⟩, ⟨9, .phase⟩, ⟨10, .phase⟩, ⟨11, .phase⟩, ⟨12, .phase⟩, ⟨13, .phase⟩], none⟩) rfl (fun K hK => ?_) AllReadyH.nil
  go_simp
  refine hK.out _ _ ?_ (fun hNew => ?_)
  · (first | assumption | exact held_of (((Below.refl w.heap.size w).alloc (Nat.le_refl _) _).drew) | exact held_of ((Below.refl w.heap.size w).alloc (Nat.le_refl _) _))
  clear hK K hHeld
  have hHeld := hNew
  clear hNew
  try simp only [Act.put, pz1, pz2, pz3]
  refine wpAnyH_done (by kernel_rfl) ?_ _
  refine NoPanic.normal ?_
  go_wp2
  exact bodyPost_ret (v := .agg #[.int .i64 (tK tl), .int .i64 (tP tl), .int .i64 (tS tl), .int .i64 (tE tl)]) (by simp [results, Tryz.results179, go_sem, tP, tS, tE]) rfl ⟨rfl, ((Below.refl _ _).alloc (Nat.le_refl _) _).drew⟩
def soundB (bs : List Nat) (n : Nat) : Bool := (bs.getD n 0 == 74) && ((bs.getD (n + 15) 0 == 0) && (numB (part bs (n + 11) 4) == crcMore 0 (bs.take (n + 11))))
theorem eqNat (a b : Nat) : ((a : Int) == (b : Int)) = (a == b) := by
  rw [Bool.eq_iff_iff]
  simp only [beq_iff_eq]
  omega
theorem sound_any (bs : List Nat) (n b o c : Nat) (w : World) (h1 : Sl w w.heap.size (some ⟨b, o, none⟩) (bs.map byteV)) (h8 : Bytes8 bs) (hl : bs.length = n + 16) (hn : n ≤ 1000) (hc : n + 16 ≤ c) (hc2 : c ≤ maxLen) :
    Calls Tryz.prog 180 #[.slice (some ⟨b, o, none⟩) (n + 16) c, .int .i64 n] w fun e' w' => e' = .returned (.bool (soundB bs n)) ∧ w = w' := by
  unfold maxLen at hc2
  obtain ⟨b', o', hA, lb, q⟩ := h1.at_ (by simp; omega)
  cases hA
  obtain ⟨x0, hx0⟩ : ∃ x, bs.getD n 0 = x := ⟨_, rfl⟩
  obtain ⟨x1, hx1⟩ : ∃ x, bs.getD (n + 15) 0 = x := ⟨_, rfl⟩
  have hb0 : x0 < 256 := by rw [← hx0]; exact Bytes8.at_ h8 n
  have hb1 : x1 < 256 := by rw [← hx1]; exact Bytes8.at_ h8 (n + 15)
  have c0 : w.cell? ⟨b, o + n, none⟩ = some (.int .u8 (x0 : Int)) := q n _ (by rw [← hx0]; simp [byteV, show n < bs.length by omega])
  have c1 : w.cell? ⟨b, o + (n + 15), none⟩ = some (.int .u8 (x1 : Int)) := q (n + 15) _ (by rw [← hx1]; simp [byteV, show n + 15 < bs.length by omega])
  have P1 : Sl w w.heap.size (some ⟨b, o + (n + 11), none⟩) ((part bs (n + 11) 4).map byteV) := by rw [part_map]; exact sl_sub h1 (n + 11) 4
  have P2 : Sl w w.heap.size (some ⟨b, o, none⟩) ((bs.take (n + 11)).map byteV) := by have := sl_sub h1 0 (n + 11); simpa [List.map_take] using this
  have L1 : Hid ((part bs (n + 11) 4).length = 4) := Lib.hid (part_len (by omega))
  have L2 : Hid ((bs.take (n + 11)).length = n + 11) := Lib.hid (by simp; omega)
  have h8t : Bytes8 (bs.take (n + 11)) := fun b hb => h8 b (List.mem_of_mem_take hb)
  have hsd : soundB bs n = ((x0 == 74) && ((x1 == 0) && (numB (part bs (n + 11) 4) == crcMore 0 (bs.take (n + 11))))) := by unfold soundB; rw [hx0, hx1]
  have hNb : numB (part bs (n + 11) 4) < 4294967296 := (be_num4 (part_len (by omega)) (part_8 h8 _ _)).2
  have hCb : crcMore 0 (bs.take (n + 11)) < 4294967296 := crcMore_lt (by omega)
  obtain ⟨N, hN⟩ : ∃ N, numB (part bs (n + 11) 4) = N := ⟨_, rfl⟩
  obtain ⟨C, hC⟩ : ∃ C, crcMore 0 (bs.take (n + 11)) = C := ⟨_, rfl⟩
  rw [hN] at hNb hsd
  rw [hC] at hCb hsd
  have HN := Lib.hid hN
  have HC := Lib.hid hC
  have HSD := Lib.hid hsd
  have i0 : (0 : Int) ≤ (n : Int) := by omega
  have i1 : (n : Int) ≤ 1000 := by omega
  have q1 : (n : Int) + 16 ≤ (c : Int) := by omega
  have q2 : (n : Int) + 11 + 4 ≤ (c : Int) := by omega
  have q3 : (n : Int) + 11 ≤ (c : Int) := by omega
  have q4 : (n : Int) < (n : Int) + 16 := by omega
  have n1 : ¬ c = n + 11 := by omega
  have b0 : (N : Int) < 4294967296 := by omega
  have b1 : (C : Int) < 4294967296 := by omega
  have b2 : (0 : Int) ≤ (C : Int) := by omega
  clear q hx0 hx1 hl hN hC hsd
  rcases (by cases hq : (x0 == 74 : Bool) <;> simp : (x0 == 74) = true ∨ (x0 == 74) = false) with t1 | t1
  · have u1 : ((x0 : Int) == 74) = true := (eqNat x0 74).trans t1
    rcases (by cases hq : (x1 == 0 : Bool) <;> simp : (x1 == 0) = true ∨ (x1 == 0) = false) with t2 | t2
    · have u2 : ((x1 : Int) == 0) = true := (eqNat x1 0).trans t2
      have hr := HSD.out.trans (by rw [t1, t2, Bool.true_and, Bool.true_and] : _ = (N == C))
      have hr2 := hr.trans (eqNat N C).symm
      have HR := Lib.hid hr2
      clear hr hr2 t1 t2
      go_enter Tryz.func180, Tryz.ntmps180
      go_wp2_with (first
        | (go_at_call 187; refine (number_n (part bs (n + 11) 4) 4 L1.out _ _ _ P1 (part_8 h8 _ _) (by omega)).mono ?_; rw [HN.out]; rintro e' w3 ⟨rfl, rfl⟩)
        | (go_at_call 176; refine (crcOf_len (bs.take (n + 11)) (n + 11) L2.out _ _ _ P2 h8t (by have := L2.out; omega)).mono ?_; rw [HC.out]; rintro e' w3 ⟨rfl, rfl⟩))
      go_ret
      exact ⟨ret_boolT HR.out.symm, rfl⟩
    · have u2 : ((x1 : Int) == 0) = false := (eqNat x1 0).trans t2
      have hr := HSD.out.trans (by rw [t1, t2]; rfl : _ = false)
      have HR := Lib.hid hr
      clear hr t1 t2
      go_enter Tryz.func180, Tryz.ntmps180
      go_wp2_with (first
        | (go_at_call 187; refine (number_n (part bs (n + 11) 4) 4 L1.out _ _ _ P1 (part_8 h8 _ _) (by omega)).mono ?_; rw [HN.out]; rintro e' w3 ⟨rfl, rfl⟩)
        | (go_at_call 176; refine (crcOf_len (bs.take (n + 11)) (n + 11) L2.out _ _ _ P2 h8t (by have := L2.out; omega)).mono ?_; rw [HC.out]; rintro e' w3 ⟨rfl, rfl⟩))
      go_ret
      exact ⟨ret_boolT HR.out.symm, rfl⟩
  · have u1 : ((x0 : Int) == 74) = false := (eqNat x0 74).trans t1
    have hr := HSD.out.trans (by rw [t1]; rfl : _ = false)
    have HR := Lib.hid hr
    clear hr t1
    go_enter Tryz.func180, Tryz.ntmps180
    go_wp2_with (first
        | (go_at_call 187; refine (number_n (part bs (n + 11) 4) 4 L1.out _ _ _ P1 (part_8 h8 _ _) (by omega)).mono ?_; rw [HN.out]; rintro e' w3 ⟨rfl, rfl⟩)
        | (go_at_call 176; refine (crcOf_len (bs.take (n + 11)) (n + 11) L2.out _ _ _ P2 h8t (by have := L2.out; omega)).mono ?_; rw [HC.out]; rintro e' w3 ⟨rfl, rfl⟩))
    go_ret
    exact ⟨ret_boolT HR.out.symm, rfl⟩
theorem clone_any (bs : List Nat) (n b o c : Nat) (w : World) (h1 : Sl w w.heap.size (some ⟨b, o, none⟩) (bs.map byteV)) (hl : bs.length = n) (hn : n ≤ 1000) :
    Calls Tryz.prog 48 #[.slice (some ⟨b, o, none⟩) n c] w fun e' w' => ∃ sv, e' = .returned sv ∧ w'.ownsRow w.heap.size 5 1 sv n (bs.map byteV) ∧ Below w.heap.size w w' := by
  obtain ⟨i0, hi, hz0, hz1, hz2⟩ := info_parts infoByte
  have HL := Lib.hid hl
  clear hl
  have hnil := fun (w : World) => Lib.run_eql_slice_nil (P := Tryz.prog) w 37 5 (some ⟨b, o, none⟩) n c 0 0 Tryz.underlying37
  go_enter Tryz.func48, Tryz.ntmps48
  go_wp2_with (at_builtin; refine wpList_app _ rfl (.tmp 5) (.tmp 6) _ rfl w.heap.size 5 i0 _ 1 1 Tryz.underlying37 hi hz0 hz1 hz2 rfl (by decide) _ 0 [] rfl (World.ownsRow_lit w #[] 0 (Nat.le_refl _) (by unfold maxLen; omega) rfl) _ n _ (bs.map byteV) rfl (Rd.of_sl (h1.next ((Below.refl _ _).alloc (Nat.le_refl _) _)) (by simp; exact HL.out)) (oneB bs) (by unfold maxLen; omega) (by omega) (by simp) ?_; intro s2 w2 ho2 hg2 hv2)
  go_ret
  refine ⟨_, rfl, own_len (n := 0 + n) (by omega) (by simpa using ho2), ((Below.refl _ _).alloc (Nat.le_refl _) _).trans (below_app (Nat.le_refl _) (by simp) (World.ownsRow_lit (e := 5) (size := 1) w #[] 0 (Nat.le_refl _) (by unfold maxLen; omega) rfl) hg2)⟩
end Go.Proofs.YtkpcohfdcilfcaaGreat
namespace Go.Proofs.YtkpcohfdcilfcaaGreat
open Go.ChangeShapes Go.WideShapes Go.ChangeAt Go.RowKit
attribute [local go_sem ↓] Go.wp_at_zero Go.wp_at_succ
def readSt (bs : List Nat) : Nat :=
  if 40 ≤ bs.length ∧ bs.length ≤ 80 then
    (if blankB bs = true then 0 else if tagB (tK (bs.drop (bs.length - 16))) (tP (bs.drop (bs.length - 16))) (tS (bs.drop (bs.length - 16))) (tE (bs.drop (bs.length - 16))) = true ∧ soundB bs (bs.length - 16) = true then 1 else 2) else 2
def st4 (w : World) (g : Nat) (u0 u1 u2 u3 : Value) : World := (((w.setCell ⟨g, 0, none⟩ u0).setCell ⟨g, 1, none⟩ u1).setCell ⟨g, 2, none⟩ u2).setCell ⟨g, 3, none⟩ u3
theorem st4_blk {wx : World} {g : Nat} {T : TypeId} {a b c d : Value} (h : Blk wx g T #[a, b, c, d]) (u0 u1 u2 u3 : Value) : Blk (st4 wx g u0 u1 u2 u3) g T #[u0, u1, u2, u3] := by
  have := (((h.set_ 0 u0).set_ 1 u1).set_ 2 u2).set_ 3 u3
  simpa [st4] using this
theorem st4_below {B g : Nat} {w wx : World} (h : Below B w wx) (hg : B ≤ g) (u0 u1 u2 u3 : Value) : Below B w (st4 wx g u0 u1 u2 u3) :=
  (((h.setCell (p := ⟨g, 0, none⟩) hg u0).setCell (p := ⟨g, 1, none⟩) hg u1).setCell (p := ⟨g, 2, none⟩) hg u2).setCell (p := ⟨g, 3, none⟩) hg u3
theorem st4_far {wx : World} {g g1 : Nat} {T : TypeId} {cs : Array Value} (h : Blk wx g1 T cs) (hne : g1 ≠ g) (u0 u1 u2 u3 : Value) : Blk (st4 wx g u0 u1 u2 u3) g1 T cs :=
  (((h.far (p := ⟨g, 0, none⟩) hne u0).far (p := ⟨g, 1, none⟩) hne u1).far (p := ⟨g, 2, none⟩) hne u2).far (p := ⟨g, 3, none⟩) hne u3
theorem st4_own {wx : World} {base g : Nat} {e : TypeId} {size n : Nat} {v : Value} {xs : List Value} (h : wx.ownsRow base e size v n xs) (hg : g < base) (u0 u1 u2 u3 : Value) : (st4 wx g u0 u1 u2 u3).ownsRow base e size v n xs :=
  ownsRow_setCell_below (a := ⟨g, 3, none⟩) (ownsRow_setCell_below (a := ⟨g, 2, none⟩) (ownsRow_setCell_below (a := ⟨g, 1, none⟩) (ownsRow_setCell_below (a := ⟨g, 0, none⟩) h hg u0) hg u1) hg u2) hg u3
theorem st4_keep {w wx : World} {g1 : Nat} {T : TypeId} {a b c d : Value} (hB : Below w.heap.size w wx) (hT : Blk wx g1 T #[a, b, c, d]) (hne : g1 ≠ w.heap.size) (u0 u1 u2 u3 : Value) :
    Below w.heap.size w (st4 wx w.heap.size u0 u1 u2 u3) ∧ (st4 wx w.heap.size u0 u1 u2 u3).cell? ⟨g1, 0, none⟩ = some a ∧ (st4 wx w.heap.size u0 u1 u2 u3).cell? ⟨g1, 1, none⟩ = some b ∧ (st4 wx w.heap.size u0 u1 u2 u3).cell? ⟨g1, 2, none⟩ = some c ∧ (st4 wx w.heap.size u0 u1 u2 u3).cell? ⟨g1, 3, none⟩ = some d := by
  have h := st4_far hT hne u0 u1 u2 u3
  exact ⟨st4_below hB (Nat.le_refl _) _ _ _ _, h.cell_ 0, h.cell_ 1, h.cell_ 2, h.cell_ 3⟩
theorem sl_take {w : World} {B : Nat} {A : Option Addr} {vs : List Value} (h : Sl w B A vs) (n : Nat) : Sl w B A (vs.take n) := by
  rcases h with h | ⟨b, off, e, hlt, hc⟩
  · exact Or.inl (by simp [h])
  · refine Or.inr ⟨b, off, e, hlt, fun k f hv => hc k f ?_⟩
    rw [List.getElem?_take] at hv
    split at hv
    · exact hv
    · cases hv
theorem read_len (bs : List Nat) (A : Option Addr) (c : Nat) (w : World) (hl : ¬ (40 ≤ bs.length ∧ bs.length ≤ 80)) (n1 : bs.length ≤ 1000000) :
    Calls Tryz.prog 163 #[.slice A bs.length c] w fun e' w' => e' = .returned (.tuple #[.slice none 0 0, .agg #[.int .i64 0, .int .i64 0, .int .i64 0, .int .i64 0], .int .i64 2]) ∧ Below w.heap.size w w' := by
  have hd : mayDataB ((bs.length : Int) - 16) = false := by unfold mayDataB; rw [Bool.and_eq_false_iff, decide_eq_false_iff_not, decide_eq_false_iff_not]; omega
  have HD := Lib.hid hd
  clear hd hl
  go_enter Tryz.func163, Tryz.ntmps163
  go_wp2_with (go_at_call 173; refine (mayData_any _ _).mono ?_; rw [HD.out]; rintro e' w' ⟨rfl, rfl⟩)
  exact bodyPost_ret (v := .tuple #[.slice none 0 0, .agg #[.int .i64 0, .int .i64 0, .int .i64 0, .int .i64 0], .int .i64 2]) (by simp [results, Tryz.results163, go_sem]) rfl ⟨rfl, (Below.refl _ _).alloc (Nat.le_refl _) _⟩
theorem read_in (bs : List Nat) (n b o c : Nat) (w : World) (h1 : Sl w w.heap.size (some ⟨b, o, none⟩) (bs.map byteV)) (h8 : Bytes8 bs) (hl : bs.length = n + 16) (hn1 : 24 ≤ n) (hn2 : n ≤ 64) (hc : n + 16 ≤ c) (hc2 : c ≤ maxLen) :
    (blankB bs = true → Calls Tryz.prog 163 #[.slice (some ⟨b, o, none⟩) (n + 16) c] w fun e' w' => e' = .returned (.tuple #[.slice none 0 0, .agg #[.int .i64 0, .int .i64 0, .int .i64 0, .int .i64 0], .int .i64 0]) ∧ Below w.heap.size w w') ∧
    (blankB bs = false → ¬ (tagB (tK (bs.drop n)) (tP (bs.drop n)) (tS (bs.drop n)) (tE (bs.drop n)) = true ∧ soundB bs n = true) → Calls Tryz.prog 163 #[.slice (some ⟨b, o, none⟩) (n + 16) c] w fun e' w' => e' = .returned (.tuple #[.slice none 0 0, .agg #[.int .i64 0, .int .i64 0, .int .i64 0, .int .i64 0], .int .i64 2]) ∧ Below w.heap.size w w') ∧
    (blankB bs = false → tagB (tK (bs.drop n)) (tP (bs.drop n)) (tS (bs.drop n)) (tE (bs.drop n)) = true → soundB bs n = true → Calls Tryz.prog 163 #[.slice (some ⟨b, o, none⟩) (n + 16) c] w fun e' w' => ∃ sv, e' = .returned (.tuple #[sv, .agg #[.int .i64 (tK (bs.drop n)), .int .i64 (tP (bs.drop n)), .int .i64 (tS (bs.drop n)), .int .i64 (tE (bs.drop n))], .int .i64 1]) ∧ w'.ownsRow (w.heap.size + 1) 5 1 sv n ((bs.take n).map byteV) ∧ Below w.heap.size w w') := by
  have hd : mayDataB ((n : Int)) = true := by unfold mayDataB; rw [Bool.and_eq_true, decide_eq_true_eq, decide_eq_true_eq]; omega
  have hd' : mayDataB ((n : Int) + 16 - 16) = true := by rw [show (n : Int) + 16 - 16 = n by omega]; exact hd
  have HD := Lib.hid hd
  have HD' := Lib.hid hd'
  obtain ⟨b', o', hA, lb, q⟩ := h1.at_ (by simp; omega)
  cases hA
  have hB0 : Below w.heap.size w (w.alloc (.cells #[.int .i64 0, .int .i64 0, .int .i64 0, .int .i64 0] 109)) := (Below.refl _ _).alloc (Nat.le_refl _) _
  have h0 := h1.next hB0
  have htl : Sl w w.heap.size (some ⟨b, o + n, none⟩) ((bs.drop n).map byteV) := by have := sl_sub h1 n 16; rwa [← List.map_drop, List.take_of_length_le (by simp; omega)] at this
  have htl0 := htl.next hB0
  have HL := Lib.hid hl
  have HTL : Hid ((bs.drop n).length = 16) := Lib.hid (by simp; omega)
  have h8t : Bytes8 (bs.drop n) := fun x hx => h8 x (List.mem_of_mem_drop hx)
  have hc3 : c ≤ 9223372036854775807 := by unfold maxLen at hc2; omega
  have HC2 := Lib.hid hc2
  have i1 : (24 : Int) ≤ (n : Int) := by omega
  have i2 : (n : Int) ≤ 64 := by omega
  have i3 : (n : Int) ≤ (c : Int) := by omega
  have i4 : ¬ c = n := by omega
  have hcn : 16 ≤ c - n := by omega
  have hcn2 : c - n ≤ maxLen := by unfold maxLen at hc2 ⊢; omega
  have HCN2 := Lib.hid hcn2
  clear hd hd' hc2 q hcn2
  refine ⟨fun he => ?_, fun he hno => ?_, fun he ht hs => ?_⟩
  · have HE := Lib.hid he
    clear he
    have hE : ∀ (w : World), Sl w w.heap.size (some ⟨b, o, none⟩) (bs.map byteV) → Calls Tryz.prog 178 #[.slice (some ⟨b, o, none⟩) (n + 16) c] w fun e w' => e = .returned (.bool true) ∧ w = w' := fun w h => by
      have := erased_any bs _ c w h h8 (by have := HL.out; omega)
      rwa [HL.out, HE.out] at this
    have HE2 := Lib.hid hE
    clear hE hl
    go_enter Tryz.func163, Tryz.ntmps163
    go_wp2_with (first | (go_at_call 173; refine (mayData_any _ _).mono ?_; first | (rw [HD.out]; rintro e' w' ⟨rfl, rfl⟩) | (rw [HD'.out]; rintro e' w' ⟨rfl, rfl⟩)) | (go_at_call 178; refine (HE2.out _ h0).mono ?_; rintro e' w' ⟨rfl, rfl⟩))
    exact bodyPost_ret (v := .tuple #[.slice none 0 0, .agg #[.int .i64 0, .int .i64 0, .int .i64 0, .int .i64 0], .int .i64 0]) (by simp [results, Tryz.results163, go_sem]) rfl ⟨rfl, (Below.refl _ _).alloc (Nat.le_refl _) _⟩
  all_goals
    have HE := Lib.hid he
    clear he
    have hE : ∀ (w : World), Sl w w.heap.size (some ⟨b, o, none⟩) (bs.map byteV) → Calls Tryz.prog 178 #[.slice (some ⟨b, o, none⟩) (n + 16) c] w fun e w' => e = .returned (.bool false) ∧ w = w' := fun w h => by
      have := erased_any bs _ c w h h8 (by have := HL.out; omega)
      rwa [HL.out, HE.out] at this
    have HE2 := Lib.hid hE
    clear hE
  · rcases (by cases hq : tagB (tK (bs.drop n)) (tP (bs.drop n)) (tS (bs.drop n)) (tE (bs.drop n)) <;> simp : tagB (tK (bs.drop n)) (tP (bs.drop n)) (tS (bs.drop n)) (tE (bs.drop n)) = false ∨ tagB (tK (bs.drop n)) (tP (bs.drop n)) (tS (bs.drop n)) (tE (bs.drop n)) = true) with ht | ht
    · have HT := Lib.hid ht
      clear ht hno hl
      go_enter Tryz.func163, Tryz.ntmps163
      go_wp2_with (first
        | (go_at_call 173; refine (mayData_any _ _).mono ?_; first | (rw [HD.out]; rintro e' w' ⟨rfl, rfl⟩) | (rw [HD'.out]; rintro e' w' ⟨rfl, rfl⟩))
        | (go_at_call 178; refine (HE2.out _ h0).mono ?_; rintro e' w' ⟨rfl, rfl⟩)
        | (go_at_call 179; refine (parse_any (bs.drop n) b (o + n) _ _ htl0 h8t HTL.out hcn HCN2.out).mono ?_; rintro e' w1 ⟨rfl, hb1⟩; have HB1 := below1 hb1; have HZ1 : Blk w1 w.heap.size 109 #[.int .i64 0, .int .i64 0, .int .i64 0, .int .i64 0] := (Blk.new_ _ _ _).below hb1 (by simp); have hz1 : w.heap.size < w1.heap.size := (by { have := hb1.size; simp at this; omega }))
        | (go_at_call 174; refine (tmay_any _ _ _ _ _).mono ?_; rw [HT.out]; rintro e' w2 ⟨rfl, hb2⟩; have HB2 := btr (HB1.alloc HB1.size (.cells #[.int .i64 (tK (bs.drop n)), .int .i64 (tP (bs.drop n)), .int .i64 (tS (bs.drop n)), .int .i64 (tE (bs.drop n))] 109)) (by simp; omega) hb2; have HZ2 : Blk w2 w.heap.size 109 #[.int .i64 0, .int .i64 0, .int .i64 0, .int .i64 0] := (HZ1.alloc_ _).below hb2 (by simp; omega); have HT2 : Blk w2 w1.heap.size 109 #[.int .i64 (tK (bs.drop n)), .int .i64 (tP (bs.drop n)), .int .i64 (tS (bs.drop n)), .int .i64 (tE (bs.drop n))] := (Blk.new_ _ _ _).below hb2 (by simp); have hz2 : w1.heap.size < w2.heap.size := (by { have := hb2.size; simp at this; omega }); have SLX := ((h0.next hb1).alloc_ (.cells #[.int .i64 (tK (bs.drop n)), .int .i64 (tP (bs.drop n)), .int .i64 (tS (bs.drop n)), .int .i64 (tE (bs.drop n))] 109)).next hb2; have y0 := HZ2.cell_ 0; have y1 := HZ2.cell_ 1; have y2 := HZ2.cell_ 2; have y3 := HZ2.cell_ 3; simp at y0 y1 y2 y3; have yf := HZ2.free; have z0 := HT2.cell_ 0; have z1 := HT2.cell_ 1; have z2 := HT2.cell_ 2; have z3 := HT2.cell_ 3; simp at z0 z1 z2 z3)
        | (go_at_call 180; refine (sound_any bs n b o c _ SLX h8 HL.out (by omega) hc HC2.out).mono ?_; rw [HS.out]; rintro e' w3 ⟨rfl, rfl⟩))
      have HW := st4_blk HZ2 (.int .i64 0) (.int .i64 0) (.int .i64 0) (.int .i64 0)
      have HBW := st4_below HB2 (Nat.le_refl _) (.int .i64 0) (.int .i64 0) (.int .i64 0) (.int .i64 0)
      change bodyPost _ _ _ _ _ (st4 w2 w.heap.size (.int .i64 0) (.int .i64 0) (.int .i64 0) (.int .i64 0))
      generalize st4 w2 w.heap.size (.int .i64 0) (.int .i64 0) (.int .i64 0) (.int .i64 0) = wz at HW HBW ⊢
      have r0 := HW.cell_ 0
      have r1 := HW.cell_ 1
      have r2 := HW.cell_ 2
      have r3 := HW.cell_ 3
      simp at r0 r1 r2 r3
      exact bodyPost_ret (v := .tuple #[.slice none 0 0, .agg #[.int .i64 0, .int .i64 0, .int .i64 0, .int .i64 0], .int .i64 2]) (by simp [results, Tryz.results163, go_sem, r0, r1, r2, r3]) rfl ⟨rfl, HBW⟩
    · have hs : soundB bs n = false := by
        rcases (by cases hq : soundB bs n <;> simp : soundB bs n = false ∨ soundB bs n = true) with h | h
        · exact h
        · exact absurd ⟨ht, h⟩ hno
      have HT := Lib.hid ht
      have HS := Lib.hid hs
      clear ht hs hno hl
      go_enter Tryz.func163, Tryz.ntmps163
      go_wp2_with (first
        | (go_at_call 173; refine (mayData_any _ _).mono ?_; first | (rw [HD.out]; rintro e' w' ⟨rfl, rfl⟩) | (rw [HD'.out]; rintro e' w' ⟨rfl, rfl⟩))
        | (go_at_call 178; refine (HE2.out _ h0).mono ?_; rintro e' w' ⟨rfl, rfl⟩)
        | (go_at_call 179; refine (parse_any (bs.drop n) b (o + n) _ _ htl0 h8t HTL.out hcn HCN2.out).mono ?_; rintro e' w1 ⟨rfl, hb1⟩; have HB1 := below1 hb1; have HZ1 : Blk w1 w.heap.size 109 #[.int .i64 0, .int .i64 0, .int .i64 0, .int .i64 0] := (Blk.new_ _ _ _).below hb1 (by simp); have hz1 : w.heap.size < w1.heap.size := (by { have := hb1.size; simp at this; omega }))
        | (go_at_call 174; refine (tmay_any _ _ _ _ _).mono ?_; rw [HT.out]; rintro e' w2 ⟨rfl, hb2⟩; have HB2 := btr (HB1.alloc HB1.size (.cells #[.int .i64 (tK (bs.drop n)), .int .i64 (tP (bs.drop n)), .int .i64 (tS (bs.drop n)), .int .i64 (tE (bs.drop n))] 109)) (by simp; omega) hb2; have HZ2 : Blk w2 w.heap.size 109 #[.int .i64 0, .int .i64 0, .int .i64 0, .int .i64 0] := (HZ1.alloc_ _).below hb2 (by simp; omega); have HT2 : Blk w2 w1.heap.size 109 #[.int .i64 (tK (bs.drop n)), .int .i64 (tP (bs.drop n)), .int .i64 (tS (bs.drop n)), .int .i64 (tE (bs.drop n))] := (Blk.new_ _ _ _).below hb2 (by simp); have hz2 : w1.heap.size < w2.heap.size := (by { have := hb2.size; simp at this; omega }); have SLX := ((h0.next hb1).alloc_ (.cells #[.int .i64 (tK (bs.drop n)), .int .i64 (tP (bs.drop n)), .int .i64 (tS (bs.drop n)), .int .i64 (tE (bs.drop n))] 109)).next hb2; have y0 := HZ2.cell_ 0; have y1 := HZ2.cell_ 1; have y2 := HZ2.cell_ 2; have y3 := HZ2.cell_ 3; simp at y0 y1 y2 y3; have yf := HZ2.free; have z0 := HT2.cell_ 0; have z1 := HT2.cell_ 1; have z2 := HT2.cell_ 2; have z3 := HT2.cell_ 3; simp at z0 z1 z2 z3)
        | (go_at_call 180; refine (sound_any bs n b o c _ SLX h8 HL.out (by omega) hc HC2.out).mono ?_; rw [HS.out]; rintro e' w3 ⟨rfl, rfl⟩))
      have HW := st4_blk HZ2 (.int .i64 0) (.int .i64 0) (.int .i64 0) (.int .i64 0)
      have HBW := st4_below HB2 (Nat.le_refl _) (.int .i64 0) (.int .i64 0) (.int .i64 0) (.int .i64 0)
      change bodyPost _ _ _ _ _ (st4 w2 w.heap.size (.int .i64 0) (.int .i64 0) (.int .i64 0) (.int .i64 0))
      generalize st4 w2 w.heap.size (.int .i64 0) (.int .i64 0) (.int .i64 0) (.int .i64 0) = wz at HW HBW ⊢
      have r0 := HW.cell_ 0
      have r1 := HW.cell_ 1
      have r2 := HW.cell_ 2
      have r3 := HW.cell_ 3
      simp at r0 r1 r2 r3
      exact bodyPost_ret (v := .tuple #[.slice none 0 0, .agg #[.int .i64 0, .int .i64 0, .int .i64 0, .int .i64 0], .int .i64 2]) (by simp [results, Tryz.results163, go_sem, r0, r1, r2, r3]) rfl ⟨rfl, HBW⟩
  · have HT := Lib.hid ht
    have HS := Lib.hid hs
    clear ht hs hl
    go_enter Tryz.func163, Tryz.ntmps163
    go_wp2_with (first
        | (go_at_call 173; refine (mayData_any _ _).mono ?_; first | (rw [HD.out]; rintro e' w' ⟨rfl, rfl⟩) | (rw [HD'.out]; rintro e' w' ⟨rfl, rfl⟩))
        | (go_at_call 178; refine (HE2.out _ h0).mono ?_; rintro e' w' ⟨rfl, rfl⟩)
        | (go_at_call 179; refine (parse_any (bs.drop n) b (o + n) _ _ htl0 h8t HTL.out hcn HCN2.out).mono ?_; rintro e' w1 ⟨rfl, hb1⟩; have HB1 := below1 hb1; have HZ1 : Blk w1 w.heap.size 109 #[.int .i64 0, .int .i64 0, .int .i64 0, .int .i64 0] := (Blk.new_ _ _ _).below hb1 (by simp); have hz1 : w.heap.size < w1.heap.size := (by { have := hb1.size; simp at this; omega }))
        | (go_at_call 174; refine (tmay_any _ _ _ _ _).mono ?_; rw [HT.out]; rintro e' w2 ⟨rfl, hb2⟩; have HB2 := btr (HB1.alloc HB1.size (.cells #[.int .i64 (tK (bs.drop n)), .int .i64 (tP (bs.drop n)), .int .i64 (tS (bs.drop n)), .int .i64 (tE (bs.drop n))] 109)) (by simp; omega) hb2; have HZ2 : Blk w2 w.heap.size 109 #[.int .i64 0, .int .i64 0, .int .i64 0, .int .i64 0] := (HZ1.alloc_ _).below hb2 (by simp; omega); have HT2 : Blk w2 w1.heap.size 109 #[.int .i64 (tK (bs.drop n)), .int .i64 (tP (bs.drop n)), .int .i64 (tS (bs.drop n)), .int .i64 (tE (bs.drop n))] := (Blk.new_ _ _ _).below hb2 (by simp); have hz2 : w1.heap.size < w2.heap.size := (by { have := hb2.size; simp at this; omega }); have SLX := ((h0.next hb1).alloc_ (.cells #[.int .i64 (tK (bs.drop n)), .int .i64 (tP (bs.drop n)), .int .i64 (tS (bs.drop n)), .int .i64 (tE (bs.drop n))] 109)).next hb2; have y0 := HZ2.cell_ 0; have y1 := HZ2.cell_ 1; have y2 := HZ2.cell_ 2; have y3 := HZ2.cell_ 3; simp at y0 y1 y2 y3; have yf := HZ2.free; have z0 := HT2.cell_ 0; have z1 := HT2.cell_ 1; have z2 := HT2.cell_ 2; have z3 := HT2.cell_ 3; simp at z0 z1 z2 z3)
        | (go_at_call 180; refine (sound_any bs n b o c _ SLX h8 HL.out (by omega) hc HC2.out).mono ?_; rw [HS.out]; rintro e' w3 ⟨rfl, rfl⟩))
    have SLT : Sl w2 w2.heap.size (some ⟨b, o, none⟩) ((bs.take n).map byteV) := by rw [List.map_take]; exact sl_take SLX n
    go_wp2_with fail
    refine wp_region_noPanic ?_
    refine wp_region_held_drew (S := (fun w' => Below w.heap.size w w' ∧ w'.cell? ⟨w1.heap.size, 0, none⟩ = some (.int .i64 (tK (bs.drop n))) ∧ w'.cell? ⟨w1.heap.size, 1, none⟩ = some (.int .i64 (tP (bs.drop n))) ∧ w'.cell? ⟨w1.heap.size, 2, none⟩ = some (.int .i64 (tS (bs.drop n))) ∧ w'.cell? ⟨w1.heap.size, 3, none⟩ = some (.int .i64 (tE (bs.drop n))))) (by kernel_rfl) ?_ (fun hHeld => ?_)
    · (first | exact ⟨HB2.drew, z0, z1, z2, z3⟩ | exact ⟨HB4, x0, x1, x2, x3⟩ | exact st4_keep HB4 HT4 (by omega) _ _ _ _)
    refine tk 0 ?_; try simp only [Act.put, pz1, pz2, pz3]
    refine tk 1 ?_; try simp only [Act.put, pz1, pz2, pz3]
    refine tk 2 ?_; try simp only [Act.put, pz1, pz2, pz3]
    refine tk 4 ?_; try simp only [Act.put, pz1, pz2, pz3]
    refine wpAnyH_ready (rs := [3]) (by kernel_rfl) (by simp) ?_
    refine AllReadyH.cons (o := ⟨some 34, .call { callee := .value (.func 48), args := #[.tmp 33], argTypes := #[37] }, 37, "tag.go:68", #[⟨2, .data⟩], none⟩) rfl (fun K hK => ?_) AllReadyH.nil
    go_simp
    (go_at_call 48; refine (clone_any (bs.take n) n b o _ _ (show Sl w2.drew w2.drew.heap.size (some ⟨b, o, none⟩) ((bs.take n).map byteV) from SLT) (by simp [HL.out]) (by omega)).mono ?_; rintro e' w4 ⟨sv, rfl, ho4, hb4⟩; have HB4 : Below w.heap.size w w4 := HB2.drew.trans (hb4.mono HB2.size); have HZ4 : Blk w4 w.heap.size 109 #[.int .i64 0, .int .i64 0, .int .i64 0, .int .i64 0] := Blk.below (w := w2.drew) HZ2 hb4 (by simp; omega); have HT4 : Blk w4 w1.heap.size 109 #[.int .i64 (tK (bs.drop n)), .int .i64 (tP (bs.drop n)), .int .i64 (tS (bs.drop n)), .int .i64 (tE (bs.drop n))] := Blk.below (w := w2.drew) HT2 hb4 (by simp; omega); have v0 := HZ4.cell_ 0; have v1 := HZ4.cell_ 1; have v2 := HZ4.cell_ 2; have v3 := HZ4.cell_ 3; simp at v0 v1 v2 v3; have vf := HZ4.free; have x0 := HT4.cell_ 0; have x1 := HT4.cell_ 1; have x2 := HT4.cell_ 2; have x3 := HT4.cell_ 3; simp at x0 x1 x2 x3)
    go_wp2_with fail
    refine hK.out _ _ ?_ (fun hNew => ?_)
    · (first | exact ⟨HB2.drew, z0, z1, z2, z3⟩ | exact ⟨HB4, x0, x1, x2, x3⟩ | exact st4_keep HB4 HT4 (by omega) _ _ _ _)
    clear hK K hHeld
    have hHeld := hNew
    clear hNew
    try simp only [Act.put, pz1, pz2, pz3]
    refine tk 5 ?_; try simp only [Act.put, pz1, pz2, pz3]
    refine wpAnyH_ready (rs := [6]) (by kernel_rfl) (by simp) ?_
    refine AllReadyH.cons (o := ⟨none, .store 109 (.tmp 3) (.tmp 35), 0, "tag.go:68", #[⟨4, .data⟩, ⟨5, .chain⟩, ⟨0, .phase⟩, ⟨1, .phase⟩, ⟨2, .phase⟩, ⟨3, .phase⟩, ⟨4, .phase⟩, ⟨5, .phase⟩], none⟩) rfl (fun K hK => ?_) AllReadyH.nil
    go_simp
    refine hK.out _ _ ?_ (fun hNew => ?_)
    · (first | exact ⟨HB2.drew, z0, z1, z2, z3⟩ | exact ⟨HB4, x0, x1, x2, x3⟩ | exact st4_keep HB4 HT4 (by omega) _ _ _ _)
    clear hK K hHeld
    have hHeld := hNew
    clear hNew
    try simp only [Act.put, pz1, pz2, pz3]
    refine tk 7 ?_; try simp only [Act.put, pz1, pz2, pz3]
    refine wpAnyH_done (by kernel_rfl) ?_ _
    refine NoPanic.normal ?_
    go_wp2
    have HW := st4_blk HZ4 (.int .i64 (tK (bs.drop n))) (.int .i64 (tP (bs.drop n))) (.int .i64 (tS (bs.drop n))) (.int .i64 (tE (bs.drop n)))
    have HBW := st4_below HB4 (Nat.le_refl _) (.int .i64 (tK (bs.drop n))) (.int .i64 (tP (bs.drop n))) (.int .i64 (tS (bs.drop n))) (.int .i64 (tE (bs.drop n)))
    have HOW := st4_own (g := w.heap.size) (own_mono ho4 (base' := w.heap.size + 1) (by have := HB2.size; simp; omega)) (by omega) (.int .i64 (tK (bs.drop n))) (.int .i64 (tP (bs.drop n))) (.int .i64 (tS (bs.drop n))) (.int .i64 (tE (bs.drop n)))
    change bodyPost _ _ _ _ _ (st4 w4 w.heap.size (.int .i64 (tK (bs.drop n))) (.int .i64 (tP (bs.drop n))) (.int .i64 (tS (bs.drop n))) (.int .i64 (tE (bs.drop n))))
    generalize st4 w4 w.heap.size (.int .i64 (tK (bs.drop n))) (.int .i64 (tP (bs.drop n))) (.int .i64 (tS (bs.drop n))) (.int .i64 (tE (bs.drop n))) = wz at HW HBW HOW ⊢
    have r0 := HW.cell_ 0
    have r1 := HW.cell_ 1
    have r2 := HW.cell_ 2
    have r3 := HW.cell_ 3
    simp at r0 r1 r2 r3
    exact bodyPost_ret (v := .tuple #[sv, .agg #[.int .i64 (tK (bs.drop n)), .int .i64 (tP (bs.drop n)), .int .i64 (tS (bs.drop n)), .int .i64 (tE (bs.drop n))], .int .i64 1]) (by simp [results, Tryz.results163, go_sem, r0, r1, r2, r3]) rfl ⟨sv, rfl, HOW, HBW⟩
end Go.Proofs.YtkpcohfdcilfcaaGreat
namespace Go.Proofs.YtkpcohfdcilfcaaGreat
open Go.ChangeShapes Go.WideShapes Go.ChangeAt Go.RowKit
attribute [local go_sem ↓] Go.wp_at_zero Go.wp_at_succ
theorem getD_eq {l : List Nat} {i : Nat} (h : i < l.length) : l.getD i 0 = l[i] := by simp [h]
def tailB (k p s e C : Nat) : List Nat := [74, k, p / 256 % 256, p % 256, s / 16777216 % 256, s / 65536 % 256, s / 256 % 256, s % 256, e / 65536 % 256, e / 256 % 256, e % 256, C / 16777216 % 256, C / 65536 % 256, C / 256 % 256, C % 256, 0]
theorem raw_tail (d : List Nat) (k p s e : Nat) : rawB d k p s e = d ++ tailB k p s e (crcMore 0 (bodyB d k p s e)) := by
  unfold rawB
  obtain ⟨C, hC⟩ : ∃ C, crcMore 0 (bodyB d k p s e) = C := ⟨_, rfl⟩
  rw [hC]
  simp [bodyB, tailB, beB_2, beB_3, beB_4]
theorem raw_body (d : List Nat) (k p s e : Nat) : (rawB d k p s e).take (d.length + 11) = bodyB d k p s e := by
  unfold rawB
  rw [List.append_assoc, List.take_append_of_le_length (by rw [bodyB_len]; exact Nat.le_refl _), List.take_of_length_le (by rw [bodyB_len]; exact Nat.le_refl _)]
theorem raw_sum (d : List Nat) (k p s e : Nat) : part (rawB d k p s e) (d.length + 11) 4 = beB (crcMore 0 (bodyB d k p s e)) 4 := by
  unfold rawB part
  rw [List.append_assoc, List.drop_append_of_le_length (by rw [bodyB_len]; exact Nat.le_refl _), List.drop_of_length_le (by rw [bodyB_len]; exact Nat.le_refl _), List.nil_append, List.take_append_of_le_length (by rw [beB_len]; exact Nat.le_refl _), List.take_of_length_le (by rw [beB_len]; exact Nat.le_refl _)]
theorem raw_drop (d : List Nat) (k p s e : Nat) : (rawB d k p s e).drop d.length = tailB k p s e (crcMore 0 (bodyB d k p s e)) := by rw [raw_tail, List.drop_left]
theorem raw_mark (d : List Nat) (k p s e : Nat) : (rawB d k p s e).getD d.length 0 = 74 := by rw [raw_tail]; simp [tailB]
theorem raw_last (d : List Nat) (k p s e : Nat) : (rawB d k p s e).getD (d.length + 15) 0 = 0 := by rw [raw_tail]; simp [tailB]
theorem tail_tK (k p s e C : Nat) : tK (tailB k p s e C) = k := rfl
theorem tail_tP {k p s e C : Nat} (h : p < 65536) : tP (tailB k p s e C) = p := by simp [tP, part, tailB, numB]; omega
theorem tail_tS {k p s e C : Nat} (h : s < 4294967296) : tS (tailB k p s e C) = s := by simp [tS, part, tailB, numB]; omega
theorem tail_tE {k p s e C : Nat} (h : e < 16777216) : tE (tailB k p s e C) = e := by simp [tE, part, tailB, numB]; omega
theorem not_blank {l : List Nat} {i : Nat} (hi : i < l.length) (h : l.getD i 0 ≠ 255) : blankB l = false := by
  unfold blankB
  rw [List.all_eq_false]
  refine ⟨l[i], List.getElem_mem hi, ?_⟩
  rw [getD_eq hi] at h
  simpa using h
def LayOk (d : List Nat) (k p s e : Nat) : Prop := 24 ≤ d.length ∧ d.length ≤ 64 ∧ 1 ≤ k ∧ k ≤ 3 ∧ (k = 3 → p = 0) ∧ p < 65536 ∧ s < 4294967296 ∧ e < 16777216 ∧ Bytes8 d
theorem raw_valid {d : List Nat} {k p s e : Nat} (h : LayOk d k p s e) : readSt (rawB d k p s e) = 1 := by
  obtain ⟨h1, h2, h3, h4, h5, h6, h7, h8, h9⟩ := h
  have hl := rawB_len d k p s e
  have hn : (rawB d k p s e).length - 16 = d.length := by omega
  unfold readSt
  rw [if_pos (by omega), hn, not_blank (i := d.length) (by omega) (by rw [raw_mark]; omega), if_neg (by simp), raw_drop, tail_tK, tail_tP h6, tail_tS h7, tail_tE h8]
  rw [if_pos]
  refine ⟨tagB_iff.2 (by omega), ?_⟩
  unfold soundB
  rw [raw_mark, raw_last, raw_sum, raw_body, num_be4 (crcMore_lt (by omega))]
  simp
theorem read_bad (bs : List Nat) (N : Nat) (hN : bs.length = N) (A : Option Addr) (c : Nat) (w : World) (h1 : Sl w w.heap.size A (bs.map byteV)) (h8 : Bytes8 bs) (hc : N ≤ c) (hc2 : c ≤ maxLen) (n1 : N ≤ 1000000) (st : Nat) (hst : readSt bs = st) (hne : st ≠ 1) :
    Calls Tryz.prog 163 #[.slice A N c] w fun e' w' => e' = .returned (.tuple #[.slice none 0 0, .agg #[.int .i64 0, .int .i64 0, .int .i64 0, .int .i64 0], .int .i64 st]) ∧ Below w.heap.size w w' := by
  subst hN
  by_cases hr : 40 ≤ bs.length ∧ bs.length ≤ 80
  · obtain ⟨b, o, rfl, lb, q⟩ := h1.at_ (by simp; omega)
    obtain ⟨n, hn⟩ : ∃ n, bs.length = n + 16 := ⟨bs.length - 16, by omega⟩
    obtain ⟨r1, r2, r3⟩ := read_in bs n b o c w h1 h8 hn (by omega) (by omega) (by omega) hc2
    unfold readSt at hst
    rw [if_pos hr, show bs.length - 16 = n by omega] at hst
    rw [hn]
    by_cases hb : blankB bs = true
    · rw [if_pos hb] at hst
      subst hst
      exact r1 hb
    · rw [if_neg hb] at hst
      by_cases hs : tagB (tK (bs.drop n)) (tP (bs.drop n)) (tS (bs.drop n)) (tE (bs.drop n)) = true ∧ soundB bs n = true
      · rw [if_pos hs] at hst
        exact absurd hst.symm hne
      · rw [if_neg hs] at hst
        subst hst
        exact r2 (by simpa using hb) hs
  · have : st = 2 := by
      rw [← hst]
      unfold readSt
      rw [if_neg hr]
    subst this
    exact read_len bs A c w hr n1
end Go.Proofs.YtkpcohfdcilfcaaGreat
namespace Go.Proofs.YtkpcohfdcilfcaaGreat
open Go.ChangeShapes Go.WideShapes Go.ChangeAt Go.RowKit
attribute [local go_sem ↓] Go.wp_at_zero Go.wp_at_succ
section
variable {P : Program} (w : World)
end
def zeros : List Nat := List.replicate 24 0
end Go.Proofs.YtkpcohfdcilfcaaGreat
namespace Go.Proofs.YtkpcohfdcilfcaaGreat
open Go.ChangeShapes Go.WideShapes Go.ChangeAt Go.RowKit Go.Deep
attribute [local go_sem ↓] Go.wp_at_zero Go.wp_at_succ
theorem sameB_b (b : Bool) (xs ys : List Nat) (n m : Nat) (hn : xs.length = n) (hm : ys.length = m) (hb : decide (xs = ys) = b) (A B : Option Addr) (c d : Nat) (w : World) (h1 : Sl w w.heap.size A (xs.map byteV)) (h2 : Sl w w.heap.size B (ys.map byteV)) (n1 : n ≤ 1000000) (n2 : m ≤ 1000000) :
    Calls Tryz.prog 37 #[.slice A n c, .slice B m d] w fun e w' => e = .returned (.bool b) ∧ Below w.heap.size w w' := by
  subst hn hm hb
  exact sameB_any xs ys A B c d w h1 h2 n1 n2
end Go.Proofs.YtkpcohfdcilfcaaGreat
namespace Go.Proofs.YtkpcohfdcilfcaaGreat
open Go.ChangeShapes Go.WideShapes Go.ChangeAt Go.RowKit
attribute [local go_sem ↓] Go.wp_at_zero Go.wp_at_succ
end Go.Proofs.YtkpcohfdcilfcaaGreat
namespace Go.Proofs.YtkpcohfdcilfcaaGreat
open Go.ChangeShapes Go.WideShapes Go.ChangeAt Go.RowKit
attribute [local go_sem ↓] Go.wp_at_zero Go.wp_at_succ
theorem four {l : List Nat} (h : l.length = 4) : ∃ a b c d, l = [a, b, c, d] := by
  match l, h with
  | [a, b, c, d], _ => exact ⟨a, b, c, d, rfl⟩
def strB (bs : List Nat) : ByteArray := ⟨(bs.map fun n => UInt8.ofNat n).toArray⟩
end Go.Proofs.YtkpcohfdcilfcaaGreat
namespace Go.Proofs.YtkpcohfdcilfcaaGreat
open Go.ChangeShapes Go.WideShapes Go.ChangeAt Go.RowKit
attribute [local go_sem ↓] Go.wp_at_zero Go.wp_at_succ
end Go.Proofs.YtkpcohfdcilfcaaGreat
namespace Go.Proofs.YtkpcohfdcilfcaaGreat
open Go.ChangeShapes Go.WideShapes Go.ChangeAt Go.RowKit
attribute [local go_sem ↓] Go.wp_at_zero Go.wp_at_succ
end Go.Proofs.YtkpcohfdcilfcaaGreat
namespace Go.Proofs.YtkpcohfdcilfcaaGreat
open Go.ChangeShapes Go.WideShapes Go.ChangeAt Go.RowKit
attribute [local go_sem ↓] Go.wp_at_zero Go.wp_at_succ
theorem lendB_ownT (bs : List Nat) (A : Option Addr) (c : Nat) (w : World) (h1 : Sl w w.heap.size A (bs.map byteV)) (n1 : bs.length ≤ 1000000) (hA : A = none → bs.length = 0 ∧ c = 0) :
    Calls Tryz.prog 33 #[.slice A bs.length c] w fun e w' =>
      ∃ g, e = .returned (.slice (some ⟨g, 0, none⟩) bs.length (bs.length + 3)) ∧ w.heap.size ≤ g ∧ LentB w' g (bs.map byteV) ∧ w'.ownsRow w.heap.size 5 1 (.slice (some ⟨g, 0, none⟩) bs.length (bs.length + 3)) bs.length (bs.map byteV) ∧ Below w.heap.size w w' := by
  obtain ⟨i0, hi, hz0, hz1, hz2⟩ := info_parts infoByte
  have H1 := Lib.hid h1
  clear h1
  go_enter Tryz.func33, Tryz.ntmps33
  go_wp2_with (first
    | (at_make; refine wpList_make_own _ rfl _ _ 37 rfl w.heap.size 5 i0 (.int .u8 0) 1 Tryz.underlying37 hi hz0 hz1 _ _ _ (bs.length + 3) rfl rfl (by go_num) (by rw [hz2]; omega) (by unfold maxLen; omega) (Nat.le_refl _) ?_; intro w1 hown1 hgrow1)
    | (at_builtin; refine wpList_append_fits_any _ rfl _ _ 37 rfl w.heap.size 5 i0 1 Tryz.underlying37 hi hz1 w.heap.size 0 (bs.length + 3) [] rfl hown1 A bs.length c (bs.map byteV) rfl (by simp) hA (Sl.cells_ (H1.out.below ((Below.refl _ _).grown hgrow1 (Nat.le_refl _) (fun j hj => by cases hj)))) (oneB bs) (by omega) ?_; intro w2 hown2 hgrow2))
  have e3 : bs.length + 3 - bs.length = 3 := by omega
  rw [e3]
  have hB2 : Below w.heap.size w w2 := ((Below.refl _ _).grown hgrow1 (Nat.le_refl _) (fun j hj => by cases hj)).grown hgrow2 hgrow1.size (fun j hj => by obtain rfl := Option.some.inj hj; exact Nat.le_refl _)
  have hl : (bs.map byteV).length = bs.length := by simp
  obtain ⟨cur, hblk, hsz, hpre⟩ : ∃ cur : Array Value, Blk w2 w.heap.size 5 cur ∧ cur.size = bs.length + 3 ∧ ∀ (j : Nat) (u : Value), (bs.map byteV)[j]? = some u → cur[j]? = some u := by
    rcases hown2.2 with ⟨h, _⟩ | ⟨g', cap', cur, h, _, hg, _, _, hcs, htake⟩
    · simp at h
    · simp only [Value.slice.injEq, Option.some.injEq, Addr.mk.injEq, and_true, true_and] at h
      obtain ⟨rfl, rfl⟩ := h
      refine ⟨cur, hg, by omega, fun j u hu => ?_⟩
      have hj := (List.getElem?_eq_some_iff.1 hu).1
      rw [List.nil_append] at htake
      rw [← htake, List.getElem?_take_of_lt (by omega)] at hu
      simpa using hu
  clear hown2 hown1 hgrow1 hgrow2
  go_loopw [5] (fun i wr => ∃ k : Nat, k ≤ 3 ∧ i = .int .i64 k ∧ (∃ cur : Array Value, Blk wr w.heap.size 5 cur ∧ cur.size = bs.length + 3 ∧ (∀ (j : Nat) (u : Value), (bs.map byteV)[j]? = some u → cur[j]? = some u) ∧ ∀ i : Nat, i < k → cur[bs.length + i]? = some (.int .u8 119)) ∧ Below w.heap.size w wr) (fun i _ => 3 - (intOf i).toNat)
  case atStart => exact ⟨0, by omega, rfl, ⟨cur, hblk, hsz, hpre, fun i hi => by omega⟩, hB2⟩
  case round =>
    obtain ⟨k, hk, rfl, ⟨cur, hblk, hsz, hpre, hdone⟩, hB⟩ := hrel
    by_cases hlt : k < 3
    · obtain ⟨x0, hx0⟩ : ∃ x, cur[bs.length + k]? = some x := ⟨_, Array.getElem?_eq_getElem (by omega)⟩
      have ck : wr.cell? ⟨w.heap.size, bs.length + k, none⟩ = some x0 := by rw [hblk.cell_]; exact hx0
      clear hx0
      have fz := hblk.free (bs.length + k)
      have i1 : (0 : Int) ≤ (k : Int) := by omega
      have i2 : (k : Int) < 3 := by omega
      have Hpre := Lib.hid hpre
      have Hdone := Lib.hid hdone
      have Hsz := Lib.hid hsz
      clear hpre hdone hsz
      go_wp2
      refine ⟨⟨k + 1, by omega, by go_num, ⟨_, hblk.set_ _ _, by rw [Array.size_setIfInBounds]; exact Hsz.out, fun j u hu => ?_, fun i hi => ?_⟩, hB.setCell (Nat.le_refl _) _⟩, by simp [intOf]; omega⟩
      · have hj := (List.getElem?_eq_some_iff.1 hu).1
        rw [Array.getElem?_setIfInBounds_ne (by omega)]
        exact Hpre.out j u hu
      · by_cases hik : i = k
        · subst hik
          rw [Array.getElem?_setIfInBounds_self_of_lt (by have := Hsz.out; omega)]
        · rw [Array.getElem?_setIfInBounds_ne (by omega)]
          exact Hdone.out i (by omega)
    · have : k = 3 := by omega
      subst this
      go_wp2
      go_ret
      refine ⟨_, rfl, Nat.le_refl _, ⟨cur, hblk, hpre, fun i hi => by rw [hl]; exact hdone i hi⟩, ⟨by simp, Or.inr ⟨w.heap.size, bs.length + 3, cur, rfl, Nat.le_refl _, hblk, by omega, by unfold maxLen; omega, by omega, ?_⟩⟩, hB⟩
      apply List.ext_getElem?
      intro j
      rw [List.getElem?_take]
      split
      · have hj : j < (bs.map byteV).length := by rw [hl]; omega
        have := hpre j _ (List.getElem?_eq_getElem hj)
        rw [List.getElem?_eq_getElem hj]
        simpa using this
      · rw [List.getElem?_eq_none (by rw [hl]; omega)]
theorem over_ownT (n g cap : Nat) (xs : List Value) (base : Nat) (w : World) (ho : w.ownsRow base 5 1 (.slice (some ⟨g, 0, none⟩) n cap) n xs) (hb : base ≤ w.heap.size) (hn : n ≤ 1000) :
    Calls Tryz.prog 36 #[.slice (some ⟨g, 0, none⟩) n cap] w fun e w' => (∃ v, e = .returned v) ∧ w.grownBy w' (some g) := by
  obtain ⟨i0, hi, hz0, hz1, hz2⟩ := info_parts infoByte
  go_enter Tryz.func36, Tryz.ntmps36
  go_wp2
  go_loopw [2] (fun i wr => ∃ (k : Nat) (ys : List Value), k ≤ n ∧ i = .int .i64 k ∧ wr.ownsRow base 5 1 (.slice (some ⟨g, 0, none⟩) n cap) n ys ∧ w.grownBy wr (some g)) (fun i _ => n - (intOf i).toNat)
  case atStart => exact ⟨0, xs, Nat.zero_le _, rfl, ho, World.grownBy.refl _ _⟩
  case round =>
    obtain ⟨k, ys, hk, rfl, hr, hB⟩ := hrel
    by_cases hlt : k < n
    · have hyl : ys.length = n := by have := hr.1; omega
      have c1 : wr.cell? ⟨g, k, none⟩ = some (ys.getD k (.bool false)) := by
        rw [hr.cellAt k (by omega)]
        simp [show k < ys.length by omega]
      have f1 : wr.frozen? ⟨g, k, none⟩ = false := hr.frozenAt k
      have i0' : (0 : Int) ≤ (k : Int) := by omega
      have i1 : (k : Int) < (n : Int) := by omega
      have hst := hr.stored k (.int .u8 238)
      have hgl := (hr.lt g rfl).1
      clear hyl
      go_wp2
      go_roundw
      case rel => exact ⟨k + 1, ys.set k (.int .u8 238), by omega, by go_num, hst.1, hB.trans hst.2⟩
      case measure => simp [intOf]; omega
    · go_wp2_with (at_builtin; refine wpList_app _ rfl (.tmp 12) (.tmp 13) _ rfl base 5 i0 _ 1 1 Tryz.underlying37 hi hz0 hz1 hz2 rfl (by decide) _ _ _ rfl (hr.alloc _) _ 1 _ [.int .u8 238] rfl (Rd.one (by simp)) (by simp [Value.oneCell']) (by unfold maxLen; omega) (by omega) (by simp; have := hB.size; omega) ?_; intro s2 w2 ho2 hg2 hv2)
      have HF : w.grownBy w2 (some g) := (hB.trans (World.grownBy_alloc _ _ _)).trans hg2
      exact bodyPost_end (v := .tuple #[]) (by simp [results, Tryz.results36, go_sem]) rfl ⟨⟨_, rfl⟩, HF⟩
end Go.Proofs.YtkpcohfdcilfcaaGreat
namespace Go.Proofs.YtkpcohfdcilfcaaGreat
open Go.ChangeShapes Go.WideShapes Go.ChangeAt Go.RowKit
attribute [local go_sem ↓] Go.wp_at_zero Go.wp_at_succ
structure OkRead (bs : List Nat) (N n : Nat) (D : List Nat) (K P S E : Nat) : Prop where
  h8 : Bytes8 bs
  hl : bs.length = n + 16
  hN : n + 16 = N
  hn1 : 24 ≤ n
  hn2 : n ≤ 64
  hD : bs.take n = D
  hK : tK (bs.drop n) = K
  hP : tP (bs.drop n) = P
  hS : tS (bs.drop n) = S
  hE : tE (bs.drop n) = E
  hst : readSt bs = 1
theorem st_ok {bs : List Nat} {n : Nat} (hl : bs.length = n + 16) (h : readSt bs = 1) : 24 ≤ n ∧ n ≤ 64 ∧ blankB bs = false ∧ tagB (tK (bs.drop n)) (tP (bs.drop n)) (tS (bs.drop n)) (tE (bs.drop n)) = true ∧ soundB bs n = true := by
  unfold readSt at h
  by_cases hr : 40 ≤ bs.length ∧ bs.length ≤ 80
  · rw [if_pos hr, show bs.length - 16 = n by omega] at h
    by_cases hb : blankB bs = true
    · rw [if_pos hb] at h
      cases h
    · rw [if_neg hb] at h
      split at h
      · rename_i h2
        exact ⟨by omega, by omega, by simpa using hb, h2.1, h2.2⟩
      · cases h
  · rw [if_neg hr] at h
    cases h
theorem ok_split {bs : List Nat} (h8 : Bytes8 bs) (h : readSt bs = 1) : ∃ n D K P S E, OkRead bs bs.length n D K P S E := by
  have hr : 40 ≤ bs.length ∧ bs.length ≤ 80 := by
    by_cases hr : 40 ≤ bs.length ∧ bs.length ≤ 80
    · exact hr
    · unfold readSt at h
      rw [if_neg hr] at h
      cases h
  obtain ⟨n, hn⟩ : ∃ n, bs.length = n + 16 := ⟨bs.length - 16, by omega⟩
  have q := st_ok hn h
  exact ⟨n, _, _, _, _, _, h8, hn, hn.symm, q.1, q.2.1, rfl, rfl, rfl, rfl, rfl, h⟩
theorem read_okT {bs D : List Nat} {N n Ka Pa Sa Ea : Nat} (hf : OkRead bs N n D Ka Pa Sa Ea) (A : Option Addr) (c : Nat) (w : World) (h1 : Sl w w.heap.size A (bs.map byteV)) (hc : N ≤ c) (hc2 : c ≤ maxLen) :
    Calls Tryz.prog 163 #[.slice A N c] w fun e' w' => ∃ sv, e' = .returned (.tuple #[sv, .agg #[.int .i64 (Ka : Nat), .int .i64 (Pa : Nat), .int .i64 (Sa : Nat), .int .i64 (Ea : Nat)], .int .i64 1]) ∧ w'.ownsRow (w.heap.size + 1) 5 1 sv n (D.map byteV) ∧ Below w.heap.size w w' := by
  obtain ⟨h8, hl, hN, hn1, hn2, hD, hK, hP, hS, hE, hst⟩ := hf
  obtain ⟨b, o, rfl, lb, q⟩ := h1.at_ (by simp; omega)
  clear q lb
  subst hN hD hK hP hS hE
  have q := st_ok hl hst
  exact (read_in bs n b o c w h1 h8 hl hn1 hn2 hc hc2).2.2 q.2.2.1 q.2.2.2.1 q.2.2.2.2
end Go.Proofs.YtkpcohfdcilfcaaGreat
namespace Go.Proofs.YtkpcohfdcilfcaaGreat
open Go.ChangeShapes Go.WideShapes Go.ChangeAt Go.RowKit
def lkD (bs : List Nat) : List Nat := if readSt bs = 1 then bs.take (bs.length - 16) else []
def lkT (bs : List Nat) : Nat × Nat × Nat × Nat := if readSt bs = 1 then (tK (bs.drop (bs.length - 16)), tP (bs.drop (bs.length - 16)), tS (bs.drop (bs.length - 16)), tE (bs.drop (bs.length - 16))) else (0, 0, 0, 0)
structure Lk (bs D : List Nat) (n K P S E st : Nat) : Prop where
  d : lkD bs = D
  n : D.length = n
  t : lkT bs = (K, P, S, E)
  st : readSt bs = st
theorem Lk.ex (bs : List Nat) : ∃ D n K P S E st, Lk bs D n K P S E st := ⟨_, _, _, _, _, _, _, rfl, rfl, rfl, rfl⟩
theorem Lk.no {bs D : List Nat} {n K P S E st : Nat} (h : Lk bs D n K P S E st) (h1 : st ≠ 1) : D = [] ∧ n = 0 ∧ K = 0 ∧ P = 0 ∧ S = 0 ∧ E = 0 := by
  obtain ⟨rfl, rfl, ht, rfl⟩ := h
  unfold lkT at ht
  unfold lkD
  rw [if_neg h1] at ht ⊢
  cases ht
  exact ⟨rfl, rfl, rfl, rfl, rfl, rfl⟩
theorem Lk.yes {bs D : List Nat} {n K P S E st : Nat} (h : Lk bs D n K P S E st) (h1 : st = 1) (h8 : Bytes8 bs) : OkRead bs bs.length n D K P S E := by
  obtain ⟨rfl, rfl, ht, hst⟩ := h
  rw [h1] at hst
  obtain ⟨n, D, K', P', S', E', hok⟩ := ok_split h8 hst
  have hl := hok.hl
  have e1 : bs.length - 16 = n := by omega
  unfold lkT at ht
  rw [if_pos hst, e1] at ht
  cases ht
  have e2 : lkD bs = D := by unfold lkD; rw [if_pos hst, e1, hok.hD]
  rw [e2]
  have e3 : D.length = n := by rw [← hok.hD, List.length_take]; omega
  rw [e3]
  exact ⟨h8, hl, rfl.trans hok.hN, hok.hn1, hok.hn2, hok.hD, rfl, rfl, rfl, rfl, hst⟩
end Go.Proofs.YtkpcohfdcilfcaaGreat
namespace Go.Proofs.YtkpcohfdcilfcaaGreat
open Go.ChangeShapes Go.WideShapes Go.ChangeAt Go.RowKit
attribute [local go_sem ↓] Go.wp_at_zero Go.wp_at_succ
theorem tread_any (bs D : List Nat) (n K P S E st : Nat) (hk : Lk bs D n K P S E st) (N : Nat) (hN : bs.length = N) (A : Option Addr) (c : Nat) (w : World) (h1 : Sl w w.heap.size A (bs.map byteV)) (h8 : Bytes8 bs) (hc : N ≤ c) (hc2 : c ≤ maxLen) (n1 : N ≤ 1000000) :
    Calls Tryz.prog 163 #[.slice A N c] w fun e' w' => (∃ A' c', e' = .returned (.tuple #[.slice A' n c', .agg #[.int .i64 (K : Nat), .int .i64 (P : Nat), .int .i64 (S : Nat), .int .i64 (E : Nat)], .int .i64 (st : Nat)]) ∧ w'.ownsRow w.heap.size 5 1 (.slice A' n c') n (D.map byteV)) ∧ Below w.heap.size w w' := by
  by_cases h : st = 1
  · have hq := hk.yes h h8
    rw [hN] at hq
    refine (read_okT hq A c w h1 hc hc2).mono ?_
    rintro e' w' ⟨sv, rfl, ho, hb⟩
    subst h
    refine ⟨?_, hb⟩
    have ho := own_base ho (Nat.le_succ _)
    have ho2 := ho
    rcases ho2.2 with ⟨rfl, h0⟩ | ⟨g, cap, cur, rfl, _⟩
    · subst h0
      exact ⟨none, 0, rfl, ho⟩
    · exact ⟨_, _, rfl, ho⟩
  · obtain ⟨rfl, rfl, rfl, rfl, rfl, rfl⟩ := hk.no h
    refine (read_bad bs N hN A c w h1 h8 hc hc2 n1 st hk.st h).mono ?_
    rintro e' w' ⟨rfl, hb⟩
    exact ⟨⟨none, 0, rfl, World.ownsRow_nil _ _ _ _⟩, hb⟩
end Go.Proofs.YtkpcohfdcilfcaaGreat
namespace Go.Proofs.YtkpcohfdcilfcaaGreat
open Go.ChangeShapes Go.WideShapes Go.ChangeAt Go.RowKit
attribute [local go_sem ↓] Go.wp_at_zero Go.wp_at_succ
theorem blk_new {w : World} {t : TypeId} {cs : Array Value} {g : Nat} (hg : g = w.heap.size) : Blk (w.alloc (.cells cs t)) g t cs := by
  subst hg
  exact Blk.new_ _ _ _
def st6 (w : World) (g : Nat) (u0 u1 u2 u3 u4 u5 : Value) : World := (((((w.setCell ⟨g, 0, none⟩ u0).setCell ⟨g, 1, none⟩ u1).setCell ⟨g, 2, none⟩ u2).setCell ⟨g, 3, none⟩ u3).setCell ⟨g, 4, none⟩ u4).setCell ⟨g, 5, none⟩ u5
theorem st6_blk {w : World} {g : Nat} {T : TypeId} {a b c d e f : Value} (h : Blk w g T #[a, b, c, d, e, f]) (u0 u1 u2 u3 u4 u5 : Value) : Blk (st6 w g u0 u1 u2 u3 u4 u5) g T #[u0, u1, u2, u3, u4, u5] := by
  have := (((((h.set_ 0 u0).set_ 1 u1).set_ 2 u2).set_ 3 u3).set_ 4 u4).set_ 5 u5
  exact this
theorem st6_tch (w : World) (g : Nat) (u0 u1 u2 u3 u4 u5 : Value) : Tch (fun x => x = g) w (st6 w g u0 u1 u2 u3 u4 u5) :=
  (((((Tch.setm w g 0 u0).trans (Tch.setm _ g 1 u1)).trans (Tch.setm _ g 2 u2)).trans (Tch.setm _ g 3 u3)).trans (Tch.setm _ g 4 u4)).trans (Tch.setm _ g 5 u5)
theorem cells6 {w : World} {g : Nat} {T : TypeId} {a b c d e f : Value} (h : Blk w g T #[a, b, c, d, e, f]) : w.cell? ⟨g, 0, none⟩ = some a ∧ w.cell? ⟨g, 1, none⟩ = some b ∧ w.cell? ⟨g, 2, none⟩ = some c ∧ w.cell? ⟨g, 3, none⟩ = some d ∧ w.cell? ⟨g, 4, none⟩ = some e ∧ w.cell? ⟨g, 5, none⟩ = some f :=
  ⟨h.cell_ 0, h.cell_ 1, h.cell_ 2, h.cell_ 3, h.cell_ 4, h.cell_ 5⟩
structure ChN (w : World) (L : Nat) (m gx gb : Nat) (Af : Option Addr) (nf cf : Nat) (a b c d e : Int) (fs : List Flt) (s : ChS) : Prop where
  chip : ChipW w m gx gb Af nf cf a b c d e fs s
  low : ∀ g, chB m gx gb g → g < L
  lowF : fs = [] ∨ ∃ g off, Af = some ⟨g, off, none⟩ ∧ g < L
theorem ChN.far {w w' : World} {L : Nat} {m gx gb : Nat} {Af : Option Addr} {nf cf : Nat} {a b c d e : Int} {fs : List Flt} {s : ChS} (h : ChN w L m gx gb Af nf cf a b c d e fs s) {S : Nat → Prop} (hT : Tch S w w') (hs : ∀ g, S g → L ≤ g) : ChN w' L m gx gb Af nf cf a b c d e fs s := by
  have hn : ∀ g, g < L → ¬ S g := fun g hg h1 => by have := hs g h1; omega
  obtain ⟨⟨⟨cx, cb, NX, NB, hX, hN, hcx, hB⟩, r1, r2, r3, n1, n2, n3, l1, l2, l3, l4⟩, lo, lf⟩ := h
  refine ⟨⟨⟨cx, cb, NX, NB, hX, hN, hcx, (hT.far m hB.lt (hn m (lo m (Or.inl rfl)))).trans hB⟩, r1.keep (hT.far gx r1.lt (hn gx (lo gx (Or.inr (Or.inl rfl))))), r2.keep (hT.far gb r2.lt (hn gb (lo gb (Or.inr (Or.inr rfl))))), ?_, n1, n2, n3, l1, l2, l3, l4⟩, lo, lf⟩
  rcases lf with lf | ⟨g, off, e, hg⟩
  · exact Or.inl lf
  · rcases r3 with r3 | ⟨g', off', e', hlt, h1, h2, h3, hc⟩
    · exact Or.inl r3
    · rw [e] at e'
      obtain ⟨rfl, rfl⟩ : g = g' ∧ off = off' := by cases e'; exact ⟨rfl, rfl⟩
      have hq : ∀ o, w'.cell? ⟨g, o, none⟩ = w.cell? ⟨g, o, none⟩ := fun o => World.cell?_of_block (w := w) (hT.far g hlt (hn g hg))
      exact Or.inr ⟨g, off, e, by have := hT.size; omega, h1, h2, h3, fun k f hf => by rw [hq, hq, hq]; exact hc k f hf⟩
theorem ChN.next {w w' : World} {L : Nat} {m gx gb : Nat} {Af : Option Addr} {nf cf : Nat} {a b c d e : Int} {fs : List Flt} {s s' : ChS} (h : ChN w L m gx gb Af nf cf a b c d e fs s) (hC : ChipW w' m gx gb Af nf cf a b c d e fs s') : ChN w' L m gx gb Af nf cf a b c d e fs s' := ⟨hC, h.low, h.lowF⟩
theorem ChN.start {w : World} {m gx gb : Nat} {Af : Option Addr} {nf cf : Nat} {a b c d e : Int} {fs : List Flt} {s : ChS} (hC : ChipW w m gx gb Af nf cf a b c d e fs s) : ChN w w.heap.size m gx gb Af nf cf a b c d e fs s := by
  have hlt := hC.lt
  refine ⟨hC, fun g hg => ?_, ?_⟩
  · rcases hg with rfl | rfl | rfl
    · exact hlt.1
    · exact hlt.2.1
    · exact hlt.2.2
  · rcases hC.flt with h1 | ⟨g, off, e, hl, _⟩
    · exact Or.inl h1
    · exact Or.inr ⟨g, off, e, hl⟩
theorem look_no (m gx gb : Nat) (Af : Option Addr) (nf cf : Nat) (a b c d e : Int) (fs : List Flt) (x y : Int) (n0 : Int) (w : World) (s : ChS) (hC : ChipW w m gx gb Af nf cf a b c d e fs s) (hs : Fine s n0) (hn0 : n0 ≤ 900000000) (Z : Int) (S1 : ChS) (hZ : Hid (s.readZ a b x y = Z ∧ True ∧ s.readS a b x y = S1)) (hne : Z ≠ 0) : Calls Tryz.prog 130 #[.pointer (some ⟨m, 0, none⟩), .agg #[.int .i64 x, .int .i64 y]] w fun e' w' => e' = .returned (.tuple #[.agg #[.slice none 0 0, .int .i64 0, .int .i64 0, .int .i64 0, .int .i64 0, .int .i64 0], .int .i64 Z]) ∧ ChipW w' m gx gb Af nf cf a b c d e fs S1 ∧ Tch (chB m gx gb) w w' := by
  have hlt := hC.lt
  have HLN := ChN.start hC
  obtain ⟨W1, hW1⟩ : ∃ W : World, W = (w.alloc (.cells #[.int .i64 x, .int .i64 y] 68)).alloc (.cells #[.slice none 0 0, .int .i64 0, .int .i64 0, .int .i64 0, .int .i64 0, .int .i64 0] 117) := ⟨_, rfl⟩
  have HB1 : Below w.heap.size w W1 := by rw [hW1]; exact ((Below.refl _ _).alloc (Nat.le_refl _) _).alloc (by simp) _
  have G3 : Blk W1 w.heap.size 68 #[.int .i64 x, .int .i64 y] := by rw [hW1]; exact (Blk.new_ w _ _).alloc_ _
  have G4 : Blk W1 (w.heap.size + 1) 117 #[.slice none 0 0, .int .i64 0, .int .i64 0, .int .i64 0, .int .i64 0, .int .i64 0] := by rw [hW1]; exact blk_new (by simp)
  have hC1 := hC.below HB1
  have hr := read_allO m gx gb Af nf cf a b c d e fs x y n0 W1 s hC1 hs hn0
  have z0 := G3.cell_ 0
  have z1 := G3.cell_ 1
  simp at z0 z1
  rw [hZ.out.1, hZ.out.2.2] at hr
  obtain ⟨bq, hbq⟩ : ∃ q, s.readB a b c x y = q := ⟨_, rfl⟩
  rw [hbq] at hr
  obtain ⟨q, hq⟩ : ∃ q, bq.length = q := ⟨_, rfl⟩
  rw [hq] at hr
  have HBQ := Lib.hid (And.intro hbq hq)
  clear hq hbq
  have HW1 := Lib.hid hW1
  clear hW1
  go_enter Tryz.func130, Tryz.ntmps130
  go_upto_region 1 with fail
  rw [← HW1.out]
  have hz1 : (Z == 0) = false := by simpa using hne
  have hz2 : (Z != 0) = true := by simpa using hne
  go_wp2_with (go_at_call 39; ((with_reducible refine (hr).mono ?_); rintro e' wR ⟨⟨A1, c1, rfl, hrow⟩, hCR, hTR⟩; have hnb : ∀ g, chB m gx gb g → g < w.heap.size := fun g hg => (by rcases hg with rfl | rfl | rfl; exact hlt.1; exact hlt.2.1; exact hlt.2.2); have G4R := hTR.blk G4 (fun hc => by have := hnb _ hc; omega); obtain ⟨y0, y1, y2, y3, y4, y5⟩ := cells6 G4R; have y9 := G4R.free; have HTR := (Tch.of_below (S := chB m gx gb) HB1).trans hTR))
  obtain ⟨wz, hwz⟩ : ∃ V : World, V = st6 wR (w.heap.size + 1) (.slice none 0 0) (.int .i64 0) (.int .i64 0) (.int .i64 0) (.int .i64 0) (.int .i64 0) := ⟨_, rfl⟩
  have HZ := st6_blk G4R (.slice none 0 0) (.int .i64 0) (.int .i64 0) (.int .i64 0) (.int .i64 0) (.int .i64 0)
  have TZ := st6_tch wR (w.heap.size + 1) (.slice none 0 0) (.int .i64 0) (.int .i64 0) (.int .i64 0) (.int .i64 0) (.int .i64 0)
  rw [← hwz] at HZ TZ
  show bodyPost _ _ _ _ _ (st6 wR (w.heap.size + 1) (.slice none 0 0) (.int .i64 0) (.int .i64 0) (.int .i64 0) (.int .i64 0) (.int .i64 0))
  rw [← hwz]
  have hCZ := ((HLN.next hCR).far TZ (fun g hg => by subst hg; omega)).chip
  have hTZ : Tch (chB m gx gb) w wz := ((HTR.mono (S' := fun g => chB m gx gb g ∨ w.heap.size ≤ g) (fun g hg => Or.inl hg)).trans (TZ.mono (fun g hg => by subst hg; exact Or.inr (Nat.le_succ _)))).monoL (fun g hg h => by rcases h with h | h; exact h; omega)
  obtain ⟨x0, x1, x2, x3, x4, x5⟩ := cells6 HZ
  refine bodyPost_ret (v := .tuple #[.agg #[.slice none 0 0, .int .i64 0, .int .i64 0, .int .i64 0, .int .i64 0, .int .i64 0], .int .i64 Z]) (by simp [results, Tryz.results130, go_sem, x0, x1, x2, x3, x4, x5]) rfl ⟨rfl, ?_, ?_⟩
  · exact hCZ
  · exact hTZ
theorem own_keepT {w w' : World} {base n size g : Nat} {e : TypeId} {v : Value} {xs : List Value} (h : w.ownsRow base e size v n xs) (hT : Tch (fun x => x = g) w w') (hg : g < base) : w'.ownsRow base e size v n xs := by
  obtain ⟨h1, h2⟩ := h
  refine ⟨h1, ?_⟩
  rcases h2 with h2 | ⟨g', cap, cur, rfl, hb, hh, hr⟩
  · exact Or.inl h2
  · have hlt : g' < w.heap.size := by
      rcases Nat.lt_or_ge g' w.heap.size with hx | hx
      · exact hx
      · rw [Array.getElem?_eq_none hx] at hh
        cases hh
    exact Or.inr ⟨g', cap, cur, rfl, hb, (hT.far g' hlt (by omega)).trans hh, hr⟩
theorem row_cap {w : World} {B q c1 : Nat} {A1 : Option Addr} {bs : List Nat} (hq : bs.length = q) (h : bs = [] ∧ A1 = none ∧ c1 = 0 ∨ ∃ g, A1 = some ⟨g, 0, none⟩ ∧ RowT w g 5 (bs.map byteV) ∧ B ≤ g ∧ w.ownsRow B 5 1 (.slice (some ⟨g, 0, none⟩) q c1) q (bs.map byteV)) : w.ownsRow B 5 1 (.slice A1 q c1) q (bs.map byteV) ∧ q ≤ c1 ∧ c1 ≤ maxLen := by
  rcases h with ⟨rfl, rfl, rfl⟩ | ⟨g, rfl, _, _, ho⟩
  · subst hq
    exact ⟨World.ownsRow_nil _ _ _ _, Nat.le_refl _, Nat.zero_le _⟩
  · have ho2 := ho
    rcases ho2.2 with ⟨h1, _⟩ | ⟨g', cap, cur, h1, h2, h3, h4, h5, _⟩
    · cases h1
    · cases h1
      exact ⟨ho, h4, h5⟩
theorem look_yes (m gx gb : Nat) (Af : Option Addr) (nf cf : Nat) (a b c d e : Int) (fs : List Flt) (x y : Int) (n0 : Int) (w : World) (s : ChS) (hC : ChipW w m gx gb Af nf cf a b c d e fs s) (hs : Fine s n0) (hn0 : n0 ≤ 900000000) (D : List Nat) (n K P S E st : Nat) (S1 : ChS) (bs : List Nat) (h8 : Bytes8 bs) (hl : bs.length ≤ 1000000) (hZ : Hid (s.readZ a b x y = 0 ∧ s.readB a b c x y = bs ∧ s.readS a b x y = S1)) (hk : Hid (Lk bs D n K P S E st)) : Calls Tryz.prog 130 #[.pointer (some ⟨m, 0, none⟩), .agg #[.int .i64 x, .int .i64 y]] w fun e' w' => (∃ A' c', e' = .returned (.tuple #[.agg #[.slice A' n c', .int .i64 (K : Nat), .int .i64 (P : Nat), .int .i64 (S : Nat), .int .i64 (E : Nat), .int .i64 (st : Nat)], .int .i64 0]) ∧ w'.ownsRow w.heap.size 5 1 (.slice A' n c') n (D.map byteV)) ∧ ChipW w' m gx gb Af nf cf a b c d e fs S1 ∧ Tch (chB m gx gb) w w' := by
  have hlt := hC.lt
  have HLN := ChN.start hC
  obtain ⟨W1, hW1⟩ : ∃ W : World, W = (w.alloc (.cells #[.int .i64 x, .int .i64 y] 68)).alloc (.cells #[.slice none 0 0, .int .i64 0, .int .i64 0, .int .i64 0, .int .i64 0, .int .i64 0] 117) := ⟨_, rfl⟩
  have HB1 : Below w.heap.size w W1 := by rw [hW1]; exact ((Below.refl _ _).alloc (Nat.le_refl _) _).alloc (by simp) _
  have G3 : Blk W1 w.heap.size 68 #[.int .i64 x, .int .i64 y] := by rw [hW1]; exact (Blk.new_ w _ _).alloc_ _
  have G4 : Blk W1 (w.heap.size + 1) 117 #[.slice none 0 0, .int .i64 0, .int .i64 0, .int .i64 0, .int .i64 0, .int .i64 0] := by rw [hW1]; exact blk_new (by simp)
  have hC1 := hC.below HB1
  have hr := read_allO m gx gb Af nf cf a b c d e fs x y n0 W1 s hC1 hs hn0
  have z0 := G3.cell_ 0
  have z1 := G3.cell_ 1
  simp at z0 z1
  rw [hZ.out.1, hZ.out.2.1, hZ.out.2.2] at hr
  obtain ⟨q, hq⟩ : ∃ q, bs.length = q := ⟨_, rfl⟩
  rw [hq] at hr
  have HQ := Lib.hid hq
  have hq9 : q ≤ 1000000 := by omega
  clear hq
  have HW1 := Lib.hid hW1
  clear hW1
  go_enter Tryz.func130, Tryz.ntmps130
  go_upto_region 1 with fail
  rw [← HW1.out]
  go_wp2_with (first | (go_at_call 39; ((with_reducible refine (hr).mono ?_); rintro e' wR ⟨⟨A1, c1, rfl, hrow⟩, hCR, hTR⟩; have hnb : ∀ g, chB m gx gb g → g < w.heap.size := fun g hg => (by rcases hg with rfl | rfl | rfl; exact hlt.1; exact hlt.2.1; exact hlt.2.2); have G4R := hTR.blk G4 (fun hc => by have := hnb _ hc; omega); obtain ⟨y0, y1, y2, y3, y4, y5⟩ := cells6 G4R; have y9 := G4R.free; have HTR := (Tch.of_below (S := chB m gx gb) HB1).trans hTR; obtain ⟨hoR, hcc1, hcc2⟩ : wR.ownsRow W1.heap.size 5 1 (.slice A1 q c1) q (bs.map byteV) ∧ q ≤ c1 ∧ c1 ≤ maxLen := row_cap HQ.out hrow; have hsR := Sl.of_own hoR; clear hrow)) | (go_at_call 163; ((with_reducible refine (tread_any bs D n K P S E st hk.out q HQ.out A1 c1 wR hsR h8 hcc1 hcc2 hq9).mono ?_); rintro e' wT ⟨⟨A2, c2, rfl, hoT⟩, hbT⟩; have hszR := hTR.size; have HG := G4.lt; have G4T := G4R.below hbT G4R.lt; have HTT := HTR.then hbT; have hCT := hCR.below hbT; have G4X := G4T.alloc_ (.cells #[.int .i64 (K : Nat), .int .i64 (P : Nat), .int .i64 (S : Nat), .int .i64 (E : Nat)] 109); have HTX := HTT.then ((Below.refl _ _).alloc (Nat.le_refl _) (.cells #[.int .i64 (K : Nat), .int .i64 (P : Nat), .int .i64 (S : Nat), .int .i64 (E : Nat)] 109)); have hCX := hCT.below ((Below.refl _ _).alloc (Nat.le_refl _) (.cells #[.int .i64 (K : Nat), .int .i64 (P : Nat), .int .i64 (S : Nat), .int .i64 (E : Nat)] 109)); have hoX := hoT.alloc (.cells #[.int .i64 (K : Nat), .int .i64 (P : Nat), .int .i64 (S : Nat), .int .i64 (E : Nat)] 109); obtain ⟨y0, y1, y2, y3, y4, y5⟩ := cells6 G4X; have y9 := G4X.free)))
  obtain ⟨wz, hwz⟩ : ∃ V : World, V = st6 (wT.alloc (.cells #[.int .i64 (K : Nat), .int .i64 (P : Nat), .int .i64 (S : Nat), .int .i64 (E : Nat)] 109)) (w.heap.size + 1) (.slice A2 n c2) (.int .i64 (K : Nat)) (.int .i64 (P : Nat)) (.int .i64 (S : Nat)) (.int .i64 (E : Nat)) (.int .i64 (st : Nat)) := ⟨_, rfl⟩
  have HZ := st6_blk G4X (.slice A2 n c2) (.int .i64 (K : Nat)) (.int .i64 (P : Nat)) (.int .i64 (S : Nat)) (.int .i64 (E : Nat)) (.int .i64 (st : Nat))
  have TZ := st6_tch (wT.alloc (.cells #[.int .i64 (K : Nat), .int .i64 (P : Nat), .int .i64 (S : Nat), .int .i64 (E : Nat)] 109)) (w.heap.size + 1) (.slice A2 n c2) (.int .i64 (K : Nat)) (.int .i64 (P : Nat)) (.int .i64 (S : Nat)) (.int .i64 (E : Nat)) (.int .i64 (st : Nat))
  rw [← hwz] at HZ TZ
  show bodyPost _ _ _ _ _ (st6 (wT.alloc (.cells #[.int .i64 (K : Nat), .int .i64 (P : Nat), .int .i64 (S : Nat), .int .i64 (E : Nat)] 109)) (w.heap.size + 1) (.slice A2 n c2) (.int .i64 (K : Nat)) (.int .i64 (P : Nat)) (.int .i64 (S : Nat)) (.int .i64 (E : Nat)) (.int .i64 (st : Nat)))
  rw [← hwz]
  have hCZ := ((HLN.next hCX).far TZ (fun g hg => by subst hg; omega)).chip
  have hTZ : Tch (chB m gx gb) w wz := ((HTX.mono (S' := fun g => chB m gx gb g ∨ w.heap.size ≤ g) (fun g hg => Or.inl hg)).trans (TZ.mono (fun g hg => by subst hg; exact Or.inr (Nat.le_succ _)))).monoL (fun g hg h => by rcases h with h | h; exact h; omega)
  obtain ⟨x0, x1, x2, x3, x4, x5⟩ := cells6 HZ
  refine bodyPost_ret (v := .tuple #[.agg #[.slice A2 n c2, .int .i64 (K : Nat), .int .i64 (P : Nat), .int .i64 (S : Nat), .int .i64 (E : Nat), .int .i64 (st : Nat)], .int .i64 0]) (by simp [results, Tryz.results130, go_sem, x0, x1, x2, x3, x4, x5]) rfl ⟨⟨_, _, rfl, ?_⟩, ?_, ?_⟩
  · exact own_base (own_keepT hoX TZ (by have := G4R.lt; omega)) (by have := G4R.lt; omega)
  · exact hCZ
  · exact hTZ
end Go.Proofs.YtkpcohfdcilfcaaGreat
namespace Go.Proofs.YtkpcohfdcilfcaaGreat
open Go.ChangeShapes Go.WideShapes Go.ChangeAt Go.RowKit
attribute [local go_sem ↓] Go.wp_at_zero Go.wp_at_succ
theorem RowFd.snoc {w : World} {base : Nat} {v : Value} {L : List Fd} {x : Fd} (h : w.ownsRow base 119 6 v (L.length + 1) (L.flatMap fCs ++ fCs x)) : RowFd w base v (L ++ [x]) := by
  unfold RowFd
  rw [List.length_append, List.flatMap_append]
  simpa using h
end Go.Proofs.YtkpcohfdcilfcaaGreat
namespace Go.Proofs.YtkpcohfdcilfcaaGreat
open Go.ChangeShapes Go.WideShapes Go.ChangeAt Go.RowKit
attribute [local go_sem ↓] Go.wp_at_zero Go.wp_at_succ
structure Cap (w : World) (gs base : Nat) (L : List Fd) : Prop where
  blk : ∃ v, Blk w gs 93 #[v] ∧ RowFd w base v L
  lt : gs < base
theorem infoFdS : (Tryz.prog.info? 119).map (fun i => (i.zero, i.size, i.bytes)) = some (some (.agg #[.int .i64 0, .int .i64 0, .int .i64 0, .int .i64 0, .int .i64 0, .int .i64 0]), 6, 48) := by kernel_rfl
@[go_sem] theorem build_fd (x y K P S E : Int) (w : World) : (Instr.buildSlice 93 1 #[(0, (.agg #[.int .i64 x, .int .i64 y, .int .i64 K, .int .i64 P, .int .i64 S, .int .i64 E]))]).run Tryz.prog w = .ok (.slice (some ⟨w.heap.size, 0, none⟩) 1 1) (w.alloc (.cells #[.int .i64 x, .int .i64 y, .int .i64 K, .int .i64 P, .int .i64 S, .int .i64 E] 119)) := by kernel_rfl
theorem rd_newF (w : World) (x y K P S E : Int) {g : Nat} (hg : g = w.heap.size) : Rd (w.alloc (.cells #[.int .i64 x, .int .i64 y, .int .i64 K, .int .i64 P, .int .i64 S, .int .i64 E] 119)) (some ⟨g, 0, none⟩) 1 6 (fCs (⟨x, y, K, P, S, E⟩ : Fd)) := by
  subst hg
  refine ⟨rfl, Or.inr ⟨_, 0, rfl, fun j u hj => ?_⟩⟩
  rw [Joins.cell_of_block (heap_alloc_new w _), Nat.zero_add]
  simpa [fCs] using hj
theorem cap_grown {wN w2 : World} {gs base : Nat} {v v2 : Value} {L : List Fd} {x : Fd} (hB : Blk wN gs 93 #[v]) (hR : RowFd wN base v L) (hlt : gs < base) (hb : base ≤ wN.heap.size) (ho : w2.ownsRow base 119 6 v2 (L.length + 1) (L.flatMap fCs ++ fCs x)) (hg : wN.grownBy w2 v.ownBlock) :
    Blk w2 gs 93 #[v] ∧ ∃ wz, wz = w2.setCell ⟨gs, 0, none⟩ v2 ∧ Cap wz gs base (L ++ [x]) ∧ Tch (fun g => g = gs ∨ base ≤ g) wN wz := by
  have hat : ∀ g, v.ownBlock = some g → base ≤ g := fun g hg => by
    obtain ⟨_, h⟩ := hR
    rcases h with ⟨rfl, _⟩ | ⟨g', cap, cur, rfl, hbb, _⟩
    · simp [Value.ownBlock] at hg
    · simp [Value.ownBlock] at hg
      omega
  have hB2 : Blk w2 gs 93 #[v] := (hg.block gs hB.lt (fun he => by have := hat gs he.symm; omega)).trans hB
  have hR2 : RowFd w2 base v2 (L ++ [x]) := RowFd.snoc ho
  have hat2 : ∀ g, v2.ownBlock = some g → base ≤ g := fun g hg => by
    obtain ⟨_, h⟩ := hR2
    rcases h with ⟨rfl, _⟩ | ⟨g', cap, cur, rfl, hbb, _⟩
    · simp [Value.ownBlock] at hg
    · simp [Value.ownBlock] at hg
      omega
  refine ⟨hB2, _, rfl, ⟨⟨v2, hB2.set_ 0 v2, ?_⟩, hlt⟩, ?_⟩
  · obtain ⟨h1, h2⟩ := hR2
    refine ⟨h1, ?_⟩
    rcases h2 with h2 | ⟨g', cap, cur, rfl, hbb, hh, hr⟩
    · exact Or.inl h2
    · exact Or.inr ⟨g', cap, cur, rfl, hbb, (Below.heap_setCell w2 ⟨gs, 0, none⟩ _ g' (by show g' ≠ gs; omega)).trans hh, hr⟩
  · exact (Tch.grown hg (fun k hk => Or.inr (hat k hk))).trans (Tch.set w2 ⟨gs, 0, none⟩ v2 (Or.inl rfl))
theorem scan1_any (x y K P S E st : Int) (A : Option Addr) (n c' gs base : Nat) (L : List Fd) (w : World) (hC : Cap w gs base L) (hb : base ≤ w.heap.size) (hL : L.length ≤ 1000000) :
    Calls Tryz.prog 88 #[.agg #[.int .i64 x, .int .i64 y], .agg #[.slice A n c', .int .i64 K, .int .i64 P, .int .i64 S, .int .i64 E, .int .i64 st], .pointer (some ⟨gs, 0, none⟩)] w fun e' w' => e' = .returned (.tuple #[]) ∧ Cap w' gs base (if st = 1 then L ++ [(⟨x, y, K, P, S, E⟩ : Fd)] else L) ∧ Tch (fun g => g = gs ∨ base ≤ g) w w' := by
  obtain ⟨⟨v, hB, hR⟩, hlt⟩ := hC
  obtain ⟨A2, c2, rfl, _, hc2, hc3⟩ := hR.sl
  by_cases h1 : st = 1
  · subst h1
    rw [if_pos rfl]
    have HB6 : Below w.heap.size w ((w.alloc (.cells #[.int .i64 x, .int .i64 y] 68)).alloc (.cells #[.slice A n c', .int .i64 K, .int .i64 P, .int .i64 S, .int .i64 E, .int .i64 1] 117)) := ((Below.refl _ _).alloc (Nat.le_refl _) _).alloc (by simp) _
    have hB6 := hB.below HB6 hB.lt
    have hR6 := RowFd.below hR HB6
    have z0 : ((w.alloc (.cells #[.int .i64 x, .int .i64 y] 68)).alloc (.cells #[.slice A n c', .int .i64 K, .int .i64 P, .int .i64 S, .int .i64 E, .int .i64 1] 117)).cell? ⟨gs, 0, none⟩ = some (.slice A2 L.length c2) := hB6.cell_ 0
    go_enter Tryz.func88, Tryz.ntmps88
    go_wp2_with (at_builtin; obtain ⟨ti0, hi, hz0, hz1, hz2⟩ := info_parts infoFdS; refine wpList_app _ rfl (.tmp 8) (.tmp 13) 93 rfl base 119 ti0 _ 6 48 Tryz.underlying93 hi hz0 hz1 hz2 rfl (by decide) (.slice A2 L.length c2) L.length (L.flatMap fCs) rfl (hR6.alloc _) _ 1 1 (fCs (⟨x, y, K, P, S, E⟩ : Fd)) rfl (rd_newF _ _ _ _ _ _ _ (by simp)) (flat_one1 _) (by unfold maxLen; omega) (by omega) (by simp; omega) ?_; intro v2 w2 ho2 hg2 hv2; obtain ⟨HX2, wz, hwz, HCZ, HTZ⟩ := cap_grown (hB6.alloc_ _) (RowFd.below hR6 ((Below.refl _ _).alloc (Nat.le_refl _) _)) hlt (by simp; omega) ho2 hg2; have x2 := HX2.cell_ 0; simp at x2; have x9 := HX2.free; have HWZ := Lib.hid hwz; have HT6 := (Tch.of_below (S := fun g => g = gs ∨ base ≤ g) (HB6.alloc HB6.size _)).trans HTZ; obtain ⟨A8, c8, hv8, _, _, _⟩ := (show RowFd w2 base v2 (L ++ [(⟨x, y, K, P, S, E⟩ : Fd)]) from RowFd.snoc ho2).sl; obtain ⟨m8, hm8⟩ : ∃ m, (L ++ [(⟨x, y, K, P, S, E⟩ : Fd)]).length = m := ⟨_, rfl⟩; rw [hm8] at hv8; subst hv8; clear hwz hm8 HTZ ho2 hg2 hv2 hi hz0 hz1 hz2)
    rw [← HWZ.out]
    exact bodyPost_end (v := .tuple #[]) (by simp [results, Tryz.results88, go_sem]) rfl ⟨rfl, HCZ, HT6⟩
  · rw [if_neg h1]
    have h2 : (st == 1) = false := by simpa using h1
    have HB6 : Below w.heap.size w ((w.alloc (.cells #[.int .i64 x, .int .i64 y] 68)).alloc (.cells #[.slice A n c', .int .i64 K, .int .i64 P, .int .i64 S, .int .i64 E, .int .i64 st] 117)) := ((Below.refl _ _).alloc (Nat.le_refl _) _).alloc (by simp) _
    have hB6 := hB.below HB6 hB.lt
    have hR6 := RowFd.below hR HB6
    go_enter Tryz.func88, Tryz.ntmps88
    go_wp2
    exact bodyPost_end (v := .tuple #[]) (by simp [results, Tryz.results88, go_sem]) rfl ⟨rfl, ⟨⟨_, hB6, hR6⟩, hlt⟩, Tch.of_below HB6⟩
end Go.Proofs.YtkpcohfdcilfcaaGreat
namespace Go.Proofs.YtkpcohfdcilfcaaGreat
open Go.ChangeShapes Go.WideShapes Go.ChangeAt Go.RowKit
attribute [local go_sem ↓] Go.wp_at_zero Go.wp_at_succ
structure Cnt (w : World) (ga gb gc : Nat) (p q r : Nat) : Prop where
  a : Blk w ga 3 #[.int .i64 (p : Int)]
  b : Blk w gb 3 #[.int .i64 (q : Int)]
  c : Blk w gc 3 #[.int .i64 (r : Int)]
  ab : ga ≠ gb
  ac : ga ≠ gc
  bc : gb ≠ gc
def cB (ga gb gc : Nat) (g : Nat) : Prop := g = ga ∨ g = gb ∨ g = gc
theorem Cnt.tch {S : Nat → Prop} {w w' : World} {ga gb gc p q r : Nat} (h : Cnt w ga gb gc p q r) (hT : Tch S w w') (h1 : ∀ g, cB ga gb gc g → ¬ S g) : Cnt w' ga gb gc p q r :=
  ⟨hT.blk h.a (h1 _ (Or.inl rfl)), hT.blk h.b (h1 _ (Or.inr (Or.inl rfl))), hT.blk h.c (h1 _ (Or.inr (Or.inr rfl))), h.ab, h.ac, h.bc⟩
end Go.Proofs.YtkpcohfdcilfcaaGreat
namespace Go.Proofs.YtkpcohfdcilfcaaGreat
open Go.ChangeShapes Go.WideShapes Go.ChangeAt Go.RowKit
theorem below3 {w w1 : World} {o o' o'' : Obj} (hb : Below (((w.alloc o).alloc o').alloc o'').heap.size (((w.alloc o).alloc o').alloc o'') w1) : Below w.heap.size w w1 :=
  ((((Below.refl _ _).alloc (Nat.le_refl _) _).alloc (by simp) _).alloc (by simp; omega) _).trans (hb.mono (by simp; omega))
theorem Next_yes (a b c d e x y : Int) (w : World) (hm : mayB a b c d e = true) (ht : thereB a b x y = true) (hl : x * b + y + 1 ≠ a * b) :
    Calls Tryz.prog 131 #[.agg #[.int .i64 a, .int .i64 b, .int .i64 c, .int .i64 d, .int .i64 e], .agg #[.int .i64 x, .int .i64 y]] w fun e' w' => e' = .returned (.tuple #[.agg #[.int .i64 ((x * b + y + 1) / b), .int .i64 ((x * b + y + 1) % b)], .bool true]) ∧ Below w.heap.size w w' := by
  obtain ⟨k1, k2, k3, k4, k7, k8, k5, k6, _⟩ := may_bd hm
  obtain ⟨t1, t2, t3, t4⟩ := there_bd ht
  obtain ⟨p1, p2⟩ := mul_bd (x := x) (y := b) (lo := 0) (hi := 19) (by omega) (by omega) k3 k4 (by omega) (by omega)
  obtain ⟨q1, q2⟩ := mul_bd (x := a) (y := b) k1 k2 k3 k4 (by omega) (by omega)
  have Hm := Lib.hid hm
  clear hm
  have hn : numberI a b x y = x * b + y := by simp [numberI, ht]
  have Hn := Lib.hid hn
  clear hn
  have Ht := Lib.hid ht
  clear ht
  have hl' : (x * b + y + 1 == a * b) = false := by simpa using hl
  go_enter Tryz.func131, Tryz.ntmps131
  go_wp2_with (first
    | (go_at_call 108; refine (may_any _ _ _ _ _ _).mono ?_; rw [Hm.out]; rintro e' w1 ⟨rfl, hb1⟩; obtain ⟨hc1, hf1⟩ := bcell hb1; have hz2 : w.heap.size + 2 < w1.heap.size := by { have := hb1.size; simp at this; omega }; have hz1 : w.heap.size + 1 < w1.heap.size := by { omega }; have hz0 : w.heap.size < w1.heap.size := by { omega })
    | (go_at_call 153; refine (there_any _ _ _ _ _ _ _ _ k1 k2 k3 k4).mono ?_; rw [Ht.out]; rintro e' w2 ⟨rfl, hb2⟩; obtain ⟨hc2, hf2⟩ := bcell hb2; have hy2 : w.heap.size + 2 < w2.heap.size := by { have := hb2.size; omega }; have hy1 : w.heap.size + 1 < w2.heap.size := by { omega }; have hy0 : w.heap.size < w2.heap.size := by { omega })
    | (go_at_call 115; refine (Number_any _ _ _ _ _ _ _ _).mono ?_; rw [ifMay_yes _ Hm.out, Hn.out]; rintro e' w3 ⟨rfl, hb3⟩; obtain ⟨hc3, hf3⟩ := bcell hb3; have hx2 : w.heap.size + 2 < w3.heap.size := by { have := hb3.size; omega }; have hx1 : w.heap.size + 1 < w3.heap.size := by { omega }; have hx0 : w.heap.size < w3.heap.size := by { omega }))
  go_region
  go_wp2
  refine bodyPost_ret (v := .tuple #[.agg #[.int .i64 ((x * b + y + 1) / b), .int .i64 ((x * b + y + 1) % b)], .bool true]) (by simp [results, Tryz.results131, go_sem, hc3, hc2, hc1, hy2, hz2]) rfl ⟨rfl, ?_⟩
  have B3 : Below w.heap.size w w3 := (below3 hb1).trans ((hb2.trans (hb3.mono hb2.size)).mono (by omega))
  exact ((B3.setCell (by simp; omega) _).setCell (by simp; omega) _).drew
def nextOk (a b c d e x y : Int) : Bool := mayB a b c d e && (thereB a b x y && decide (x * b + y + 1 ≠ a * b))
def nextX (a b c d e x y : Int) : Int := if nextOk a b c d e x y = true then (x * b + y + 1) / b else 0
def nextY (a b c d e x y : Int) : Int := if nextOk a b c d e x y = true then (x * b + y + 1) % b else 0
theorem Next_any (a b c d e x y : Int) (w : World) :
    Calls Tryz.prog 131 #[.agg #[.int .i64 a, .int .i64 b, .int .i64 c, .int .i64 d, .int .i64 e], .agg #[.int .i64 x, .int .i64 y]] w fun e' w' => e' = .returned (.tuple #[.agg #[.int .i64 (nextX a b c d e x y), .int .i64 (nextY a b c d e x y)], .bool (nextOk a b c d e x y)]) ∧ Below w.heap.size w w' := by
  by_cases hok : nextOk a b c d e x y = true
  · have hok' := hok
    simp only [nextOk, Bool.and_eq_true, decide_eq_true_eq] at hok'
    obtain ⟨hm, ht, hl⟩ := hok'
    simp only [nextX, nextY, hok, if_true]
    exact Next_yes a b c d e x y w hm ht hl
  · have hno : nextOk a b c d e x y = false := by simpa using hok
    simp only [nextX, nextY, hno, Bool.false_eq_true, if_false]
    cases hm : mayB a b c d e
    · have Hm := Lib.hid hm
      clear hm hok hno
      go_enter Tryz.func131, Tryz.ntmps131
      go_wp2_with (go_at_call 108; refine (may_any _ _ _ _ _ _).mono ?_; rw [Hm.out]; rintro e' w1 ⟨rfl, hb1⟩; obtain ⟨hc1, hf1⟩ := bcell hb1; have hz2 : w.heap.size + 2 < w1.heap.size := by { have := hb1.size; simp at this; omega })
      refine bodyPost_ret (v := .tuple #[.agg #[.int .i64 0, .int .i64 0], .bool false]) (by simp [results, Tryz.results131, go_sem, hc1]) rfl ⟨rfl, ?_⟩
      exact ((below3 hb1).setCell (by simp; omega) _).setCell (by simp; omega) _
    · obtain ⟨k1, k2, k3, k4, k7, k8, k5, k6, _⟩ := may_bd hm
      have Hm := Lib.hid hm
      clear hm
      cases ht : thereB a b x y
      · have Ht := Lib.hid ht
        clear ht hok hno
        go_enter Tryz.func131, Tryz.ntmps131
        go_wp2_with (first
          | (go_at_call 108; refine (may_any _ _ _ _ _ _).mono ?_; rw [Hm.out]; rintro e' w1 ⟨rfl, hb1⟩; obtain ⟨hc1, hf1⟩ := bcell hb1; have hz2 : w.heap.size + 2 < w1.heap.size := by { have := hb1.size; simp at this; omega }; have hz1 : w.heap.size + 1 < w1.heap.size := by { omega }; have hz0 : w.heap.size < w1.heap.size := by { omega })
          | (go_at_call 153; refine (there_any _ _ _ _ _ _ _ _ k1 k2 k3 k4).mono ?_; rw [Ht.out]; rintro e' w2 ⟨rfl, hb2⟩; obtain ⟨hc2, hf2⟩ := bcell hb2; have hy2 : w.heap.size + 2 < w2.heap.size := by { have := hb2.size; omega }))
        refine bodyPost_ret (v := .tuple #[.agg #[.int .i64 0, .int .i64 0], .bool false]) (by simp [results, Tryz.results131, go_sem, hc1, hc2, hz2]) rfl ⟨rfl, ?_⟩
        exact (((below3 hb1).trans (hb2.mono (by omega))).setCell (by simp; omega) _).setCell (by simp; omega) _
      · obtain ⟨t1, t2, t3, t4⟩ := there_bd ht
        obtain ⟨p1, p2⟩ := mul_bd (x := x) (y := b) (lo := 0) (hi := 19) (by omega) (by omega) k3 k4 (by omega) (by omega)
        obtain ⟨q1, q2⟩ := mul_bd (x := a) (y := b) k1 k2 k3 k4 (by omega) (by omega)
        have hl : x * b + y + 1 = a * b := by simpa [nextOk, Hm.out, ht] using hno
        have hn : numberI a b x y = x * b + y := by simp [numberI, ht]
        have Hn := Lib.hid hn
        have Ht := Lib.hid ht
        have hl' : (x * b + y + 1 == a * b) = true := by simpa using hl
        clear hn ht hok hno hl
        go_enter Tryz.func131, Tryz.ntmps131
        go_wp2_with (first
          | (go_at_call 108; refine (may_any _ _ _ _ _ _).mono ?_; rw [Hm.out]; rintro e' w1 ⟨rfl, hb1⟩; obtain ⟨hc1, hf1⟩ := bcell hb1; have hz2 : w.heap.size + 2 < w1.heap.size := by { have := hb1.size; simp at this; omega }; have hz1 : w.heap.size + 1 < w1.heap.size := by { omega }; have hz0 : w.heap.size < w1.heap.size := by { omega })
          | (go_at_call 153; refine (there_any _ _ _ _ _ _ _ _ k1 k2 k3 k4).mono ?_; rw [Ht.out]; rintro e' w2 ⟨rfl, hb2⟩; obtain ⟨hc2, hf2⟩ := bcell hb2; have hy2 : w.heap.size + 2 < w2.heap.size := by { have := hb2.size; omega }; have hy1 : w.heap.size + 1 < w2.heap.size := by { omega }; have hy0 : w.heap.size < w2.heap.size := by { omega })
          | (go_at_call 115; refine (Number_any _ _ _ _ _ _ _ _).mono ?_; rw [ifMay_yes _ Hm.out, Hn.out]; rintro e' w3 ⟨rfl, hb3⟩; obtain ⟨hc3, hf3⟩ := bcell hb3; have hx2 : w.heap.size + 2 < w3.heap.size := by { have := hb3.size; omega }; have hx1 : w.heap.size + 1 < w3.heap.size := by { omega }; have hx0 : w.heap.size < w3.heap.size := by { omega }))
        refine bodyPost_ret (v := .tuple #[.agg #[.int .i64 0, .int .i64 0], .bool false]) (by simp [results, Tryz.results131, go_sem, hc1, hc2, hc3, hz2, hy2]) rfl ⟨rfl, ?_⟩
        have B3 : Below w.heap.size w w3 := (below3 hb1).trans ((hb2.trans (hb3.mono hb2.size)).mono (by omega))
        exact (B3.setCell (by simp; omega) _).setCell (by simp; omega) _
end Go.Proofs.YtkpcohfdcilfcaaGreat
namespace Go.Proofs.YtkpcohfdcilfcaaGreat
open Go.ChangeShapes Go.WideShapes Go.ChangeAt Go.RowKit
abbrev Vis := Nat × Nat × List Nat
def walkF (a b c : Int) (NB : Nat) (fs : List Flt) : Nat → Nat → ChS → List Vis → Int × List Vis × ChS
  | 0, _, s, acc => (0, acc, s)
  | r + 1, i, s, acc =>
    if badB fs ((i / NB : Nat) : Int) = true then walkF a b c NB fs r (i + 1) s acc
    else if s.readZ a b ((i / NB : Nat) : Int) ((i % NB : Nat) : Int) = 0 then walkF a b c NB fs r (i + 1) (s.readS a b ((i / NB : Nat) : Int) ((i % NB : Nat) : Int)) (acc ++ [(i / NB, i % NB, s.readB a b c ((i / NB : Nat) : Int) ((i % NB : Nat) : Int))])
    else (s.readZ a b ((i / NB : Nat) : Int) ((i % NB : Nat) : Int), acc, s.readS a b ((i / NB : Nat) : Int) ((i % NB : Nat) : Int))
def fdOf (v : Vis) : List Fd := if readSt v.2.2 = 1 then [⟨(v.1 : Int), (v.2.1 : Int), ((lkT v.2.2).1 : Int), ((lkT v.2.2).2.1 : Int), ((lkT v.2.2).2.2.1 : Int), ((lkT v.2.2).2.2.2 : Int)⟩] else []
def fdsOf (l : List Vis) : List Fd := l.flatMap fdOf
theorem fdsOf_snoc (l : List Vis) (v : Vis) : fdsOf (l ++ [v]) = fdsOf l ++ fdOf v := by simp [fdsOf]
theorem fdOf_lk {k l : Nat} {bs D : List Nat} {n K P S E st : Nat} (h : Lk bs D n K P S E st) : fdOf (k, l, bs) = if st = 1 then [⟨(k : Int), (l : Int), (K : Int), (P : Int), (S : Int), (E : Int)⟩] else [] := by
  obtain ⟨_, _, h3, h4⟩ := h
  unfold fdOf
  rw [h4]
  simp only [h3]
theorem fdsOf_len (l : List Vis) : (fdsOf l).length ≤ l.length := by
  induction l with
  | nil => simp [fdsOf]
  | cons v l ih =>
    have : fdsOf (v :: l) = fdOf v ++ fdsOf l := rfl
    rw [this, List.length_append, List.length_cons]
    have : (fdOf v).length ≤ 1 := by unfold fdOf; split <;> simp
    omega
def cnt (p : Nat → Bool) (l : List Vis) : Nat := (l.filter fun v => p (readSt v.2.2)).length
theorem walkF_bad {a b c : Int} {NB r i : Nat} {fs : List Flt} {s : ChS} {acc : List Vis} (h : badB fs ((i / NB : Nat) : Int) = true) : walkF a b c NB fs (r + 1) i s acc = walkF a b c NB fs r (i + 1) s acc := by
  rw [walkF, if_pos h]
theorem walkF_ok {a b c : Int} {NB r i : Nat} {fs : List Flt} {s S1 : ChS} {acc : List Vis} {bs : List Nat} (h : badB fs ((i / NB : Nat) : Int) = false) (hz : s.readZ a b ((i / NB : Nat) : Int) ((i % NB : Nat) : Int) = 0) (h1 : s.readS a b ((i / NB : Nat) : Int) ((i % NB : Nat) : Int) = S1) (h2 : s.readB a b c ((i / NB : Nat) : Int) ((i % NB : Nat) : Int) = bs) : walkF a b c NB fs (r + 1) i s acc = walkF a b c NB fs r (i + 1) S1 (acc ++ [(i / NB, i % NB, bs)]) := by
  rw [walkF, if_neg (by rw [h]; simp), if_pos hz, h1, h2]
theorem walkF_err {a b c : Int} {NB r i : Nat} {fs : List Flt} {s S1 : ChS} {acc : List Vis} {Z : Int} (h : badB fs ((i / NB : Nat) : Int) = false) (hz : s.readZ a b ((i / NB : Nat) : Int) ((i % NB : Nat) : Int) = Z) (hne : Z ≠ 0) (h1 : s.readS a b ((i / NB : Nat) : Int) ((i % NB : Nat) : Int) = S1) : walkF a b c NB fs (r + 1) i s acc = (Z, acc, S1) := by
  rw [walkF, if_neg (by rw [h]; simp), if_neg (by rw [hz]; exact hne), hz, h1]
theorem divmod {i NA NB : Nat} (hB : 0 < NB) (h : i < NA * NB) : i / NB < NA ∧ i % NB < NB ∧ i / NB * NB + i % NB = i := ⟨Nat.div_lt_of_lt_mul (by rw [Nat.mul_comm]; exact h), Nat.mod_lt _ hB, by rw [Nat.mul_comm]; exact Nat.div_add_mod i NB⟩
theorem there_in {a b : Int} {NA NB i : Nat} (hA : (NA : Int) = a) (hB : (NB : Int) = b) (h0 : 0 < NB) (h : i < NA * NB) : thereB a b ((i / NB : Nat) : Int) ((i % NB : Nat) : Int) = true := by
  obtain ⟨h1, h2, _⟩ := divmod h0 h
  generalize i / NB = q at h1 ⊢
  generalize i % NB = r at h2 ⊢
  unfold thereB withinB
  simp
  omega
theorem next_at (a b c d e : Int) (NA NB i : Nat) (w : World) (hm : mayB a b c d e = true) (hA : (NA : Int) = a) (hB : (NB : Int) = b) (h0 : 0 < NB) (h : i < NA * NB) (X Y : Int) (T : Bool) (hX : Hid (X = (if i + 1 < NA * NB then (((i + 1) / NB : Nat) : Int) else 0) ∧ Y = (if i + 1 < NA * NB then (((i + 1) % NB : Nat) : Int) else 0) ∧ T = decide (i + 1 < NA * NB))) :
    Calls Tryz.prog 131 #[.agg #[.int .i64 a, .int .i64 b, .int .i64 c, .int .i64 d, .int .i64 e], .agg #[.int .i64 ((i / NB : Nat) : Int), .int .i64 ((i % NB : Nat) : Int)]] w fun e' w' => e' = .returned (.tuple #[.agg #[.int .i64 X, .int .i64 Y], .bool T]) ∧ Below w.heap.size w w' := by
  have ht := there_in hA hB h0 h
  obtain ⟨h1, h2, h3⟩ := divmod h0 h
  have hx : ((i / NB : Nat) : Int) * b + ((i % NB : Nat) : Int) + 1 = ((i + 1 : Nat) : Int) := by rw [← hB, ← Int.natCast_mul]; omega
  have hab : a * b = ((NA * NB : Nat) : Int) := by rw [← hA, ← hB, Int.natCast_mul]
  have hok : nextOk a b c d e ((i / NB : Nat) : Int) ((i % NB : Nat) : Int) = decide (i + 1 < NA * NB) := by
    unfold nextOk
    rw [hm, ht, hx, hab, Bool.true_and, Bool.true_and]
    by_cases hl : i + 1 < NA * NB
    · rw [decide_eq_true hl, decide_eq_true (by omega)]
    · rw [decide_eq_false hl, decide_eq_false (by omega)]
  have := Next_any a b c d e ((i / NB : Nat) : Int) ((i % NB : Nat) : Int) w
  have eX : nextX a b c d e ((i / NB : Nat) : Int) ((i % NB : Nat) : Int) = X := by
    unfold nextX
    rw [hok, hX.out.1, hx]
    by_cases hl : i + 1 < NA * NB
    · rw [if_pos (decide_eq_true hl), if_pos hl, ← hB]
      rfl
    · rw [if_neg (by simpa using hl), if_neg hl]
  have eY : nextY a b c d e ((i / NB : Nat) : Int) ((i % NB : Nat) : Int) = Y := by
    unfold nextY
    rw [hok, hX.out.2.1, hx]
    by_cases hl : i + 1 < NA * NB
    · rw [if_pos (decide_eq_true hl), if_pos hl, ← hB]
      rfl
    · rw [if_neg (by simpa using hl), if_neg hl]
  rw [eX, eY, hok, ← hX.out.2.2] at this
  exact this
end Go.Proofs.YtkpcohfdcilfcaaGreat
namespace Go.Proofs.YtkpcohfdcilfcaaGreat
open Go.ChangeShapes Go.WideShapes Go.ChangeAt Go.RowKit
attribute [local go_sem ↓] Go.wp_at_zero Go.wp_at_succ
end Go.Proofs.YtkpcohfdcilfcaaGreat
namespace Go.Proofs.YtkpcohfdcilfcaaGreat
open Go.ChangeShapes Go.WideShapes Go.ChangeAt Go.RowKit
end Go.Proofs.YtkpcohfdcilfcaaGreat
namespace Go.Proofs.YtkpcohfdcilfcaaGreat
open Go.ChangeShapes Go.WideShapes Go.ChangeAt Go.RowKit
def ChS.wait (s : ChS) : Int := if s.armed then s.turn - s.ops else 0
def rfB (m gB gN gW gD : Nat) (g : Nat) : Prop := g = m ∨ g = gB ∨ g = gN ∨ g = gW ∨ g = gD
structure PgAt (w : World) (L : Nat) (S : Nat → Prop) (RW : Nat) (X : List Nat) (N : Nat) (p : Nat × Nat) : Prop where
  lt : p.1 < w.heap.size
  ge : L ≤ p.1
  ns : ¬ S p.1
  cap : RW ≤ p.2
  cap2 : p.2 ≤ maxLen
  cell : ∀ j, j < RW → w.cell? ⟨p.1, j, none⟩ = some (byteV (X.getD (N * RW + j) 0))
theorem PgAt.keep {w w' : World} {L RW N : Nat} {S : Nat → Prop} {X : List Nat} {p : Nat × Nat} (h : PgAt w L S RW X N p) (hz : w.heap.size ≤ w'.heap.size) (hk : w'.heap[p.1]? = w.heap[p.1]?) : PgAt w' L S RW X N p :=
  ⟨by have := h.lt; omega, h.ge, h.ns, h.cap, h.cap2, fun j hj => by rw [← h.cell j hj]; exact World.cell?_of_block (w := w) hk⟩
def pgV (RW : Nat) (p : Nat × Nat) : Value := .slice (some ⟨p.1, 0, none⟩) RW p.2
def FltR (w : World) (L : Nat) (S : Nat → Prop) (A : Option Addr) (fs : List Flt) : Prop :=
  fs = [] ∨ ∃ g off, A = some ⟨g, off, none⟩ ∧ g < w.heap.size ∧ L ≤ g ∧ ¬ S g ∧ ∀ k f, fs[k]? = some f →
    w.cell? ⟨g, off + k * 3, none⟩ = some (.int .i64 f.blk) ∧ w.cell? ⟨g, off + k * 3 + 1, none⟩ = some (.bool f.fac) ∧ w.cell? ⟨g, off + k * 3 + 2, none⟩ = some (.int .i64 f.aft)
theorem FltR.sl {w : World} {L : Nat} {S : Nat → Prop} {A : Option Addr} {fs : List Flt} (h : FltR w L S A fs) : SlF w w.heap.size A fs := by
  rcases h with h | ⟨g, off, e, hlt, _, _, hc⟩
  · exact Or.inl h
  · exact Or.inr ⟨g, off, e, hlt, hc⟩
theorem FltR.keep {w w' : World} {L : Nat} {S : Nat → Prop} {A : Option Addr} {fs : List Flt} (h : FltR w L S A fs) (hz : w.heap.size ≤ w'.heap.size) (hk : ∀ g, g < w.heap.size → L ≤ g → ¬ S g → w'.heap[g]? = w.heap[g]?) : FltR w' L S A fs := by
  rcases h with h | ⟨g, off, e, hlt, h1, h2, hc⟩
  · exact Or.inl h
  · have hq : ∀ o, w'.cell? ⟨g, o, none⟩ = w.cell? ⟨g, o, none⟩ := fun o => World.cell?_of_block (w := w) (hk g hlt h1 h2)
    exact Or.inr ⟨g, off, e, by omega, h1, h2, fun k f hf => by rw [hq, hq, hq]; exact hc k f hf⟩
def kcol (K : List Int) (j NB : Nat) : List Value := (List.range NB).map (fun i => Value.int .i64 (K.getD (3 * i + j) 0))
end Go.Proofs.YtkpcohfdcilfcaaGreat
namespace Go.Proofs.YtkpcohfdcilfcaaGreat
open Go.ChangeShapes Go.WideShapes Go.ChangeAt Go.RowKit
structure ChS.Wt (s : ChS) : Prop where
  w0 : s.armed = true → s.ops + 1 ≤ s.turn
  w1 : s.armed = true → s.turn ≤ 4000000000
end Go.Proofs.YtkpcohfdcilfcaaGreat
namespace Go.Proofs.YtkpcohfdcilfcaaGreat
open Go.ChangeShapes Go.WideShapes Go.ChangeAt Go.RowKit
structure RefC (w : World) (m gB gN gW gD L : Nat) (Af : Option Addr) (nf cf : Nat) (a b c d e : Int) (fs : List Flt) (s : ChS) (NP NB RW cB : Nat) : Prop where
  y0 : w.cell? ⟨m, 0, none⟩ = some (.int .i64 a)
  y1 : w.cell? ⟨m, 1, none⟩ = some (.int .i64 b)
  y2 : w.cell? ⟨m, 2, none⟩ = some (.int .i64 c)
  y3 : w.cell? ⟨m, 3, none⟩ = some (.int .i64 d)
  y4 : w.cell? ⟨m, 4, none⟩ = some (.int .i64 e)
  y5 : w.cell? ⟨m, 5, none⟩ = some (.slice Af nf cf)
  y6 : w.cell? ⟨m, 6, none⟩ = some (.slice (some ⟨gB, 0, none⟩) NP cB)
  y7 : w.cell? ⟨m, 7, none⟩ = some (.slice (some ⟨gN, 0, none⟩) NB NB)
  y8 : w.cell? ⟨m, 8, none⟩ = some (.slice (some ⟨gW, 0, none⟩) NB NB)
  y9 : w.cell? ⟨m, 9, none⟩ = some (.slice (some ⟨gD, 0, none⟩) NB NB)
  y10 : w.cell? ⟨m, 10, none⟩ = some (.int .i64 s.ops)
  y11 : w.cell? ⟨m, 11, none⟩ = some (.int .i64 s.cuts)
  y12 : w.cell? ⟨m, 12, none⟩ = some (.bool (!s.on))
  y13 : w.cell? ⟨m, 13, none⟩ = some (.int .i64 s.wait)
  y14 : w.cell? ⟨m, 14, none⟩ = some (.int .i64 s.cop)
  y15 : w.cell? ⟨m, 15, none⟩ = some (.int .i64 s.cby)
  y16 : w.cell? ⟨m, 16, none⟩ = some (.int .u8 (s.fill : Nat))
  fm : ∀ i, w.frozen? ⟨m, i, none⟩ = false
  hRW : Hid ((RW : Int) = c + 16)
  hNP : Hid ((NP : Int) = a * b)
  hNB : Hid ((NB : Int) = a)
  hcB : Hid (NP ≤ cB)
  n0 : ∀ k, k < NB → w.cell? ⟨gN, k, none⟩ = some (.int .i64 (s.k (k : Int) 0))
  n1 : ∀ k, k < NB → w.cell? ⟨gW, k, none⟩ = some (.int .i64 (s.k (k : Int) 1))
  n2 : ∀ k, k < NB → w.cell? ⟨gD, k, none⟩ = some (.int .i64 (s.k (k : Int) 2))
end Go.Proofs.YtkpcohfdcilfcaaGreat
namespace Go.Proofs.YtkpcohfdcilfcaaGreat
open Go.ChangeShapes Go.WideShapes Go.ChangeAt Go.RowKit
theorem cellOf {w w' : World} (h : Below w.heap.size w w') {p : Addr} {v : Value} (hc : w.cell? p = some v) : w'.cell? p = some v := (h.cell (World.block_lt_of_cell? w p hc)).trans hc
theorem RefC.below {w w' : World} {m gB gN gW gD L : Nat} {Af : Option Addr} {nf cf : Nat} {a b c d e : Int} {fs : List Flt} {s : ChS} {NP NB RW cB : Nat} (h : RefC w m gB gN gW gD L Af nf cf a b c d e fs s NP NB RW cB) (hb : Below w.heap.size w w') : RefC w' m gB gN gW gD L Af nf cf a b c d e fs s NP NB RW cB :=
  ⟨cellOf hb h.y0, cellOf hb h.y1, cellOf hb h.y2, cellOf hb h.y3, cellOf hb h.y4, cellOf hb h.y5, cellOf hb h.y6, cellOf hb h.y7, cellOf hb h.y8, cellOf hb h.y9, cellOf hb h.y10, cellOf hb h.y11, cellOf hb h.y12, cellOf hb h.y13, cellOf hb h.y14, cellOf hb h.y15, cellOf hb h.y16, fun i => (hb.frozen (p := ⟨m, i, none⟩) (show m < w.heap.size from World.block_lt_of_cell? w ⟨m, 0, none⟩ h.y0)).trans (h.fm i), h.hRW, h.hNP, h.hNB, h.hcB, fun k hk => cellOf hb (h.n0 k hk), fun k hk => cellOf hb (h.n1 k hk), fun k hk => cellOf hb (h.n2 k hk)⟩
structure PgR (w : World) (gB N RW : Nat) (p c : Nat) (bs : List Nat) : Prop where
  cN : w.cell? ⟨gB, N, none⟩ = some (.slice (some ⟨p, 0, none⟩) RW c)
  rd : Rd w (some ⟨p, 0, none⟩) RW 1 (bs.map byteV)
  lt : p < w.heap.size
  cap : RW ≤ c
  cap2 : c ≤ maxLen
theorem PgR.below {w w' : World} {gB N RW p c : Nat} {bs : List Nat} (h : PgR w gB N RW p c bs) (hb : Below w.heap.size w w') : PgR w' gB N RW p c bs :=
  ⟨cellOf hb h.cN, h.rd.keep (fun b o e j => by cases e; exact hb.cell h.lt), by have := h.lt; have := hb.size; omega, h.cap, h.cap2⟩
end Go.Proofs.YtkpcohfdcilfcaaGreat
namespace Go.Proofs.YtkpcohfdcilfcaaGreat
open Go.ChangeShapes Go.WideShapes Go.ChangeAt Go.RowKit
end Go.Proofs.YtkpcohfdcilfcaaGreat
namespace Go.Proofs.YtkpcohfdcilfcaaGreat
open Go.ChangeShapes Go.WideShapes Go.ChangeAt Go.RowKit
end Go.Proofs.YtkpcohfdcilfcaaGreat
namespace Go.Proofs.YtkpcohfdcilfcaaGreat
open Go.ChangeShapes Go.WideShapes Go.ChangeAt Go.RowKit
end Go.Proofs.YtkpcohfdcilfcaaGreat
namespace Go.Proofs.YtkpcohfdcilfcaaGreat
open Go.ChangeShapes Go.WideShapes Go.ChangeAt Go.RowKit
def Fresh (w w' : World) (gB : Nat) : Prop := ∀ i, w'.cell? ⟨gB, i, none⟩ = w.cell? ⟨gB, i, none⟩ ∨ ∃ g n c, w'.cell? ⟨gB, i, none⟩ = some (.slice (some ⟨g, 0, none⟩) n c) ∧ w.heap.size ≤ g
theorem Fresh.of {w w' : World} {gB : Nat} (hk : w'.heap[gB]? = w.heap[gB]?) : Fresh w w' gB := fun i => Or.inl (World.cell?_of_block (w := w) hk)
theorem Fresh.then {w w' w'' : World} {gB : Nat} (h : Fresh w w' gB) (hk : w''.heap[gB]? = w'.heap[gB]?) : Fresh w w'' gB := by
  intro i
  have e : w''.cell? ⟨gB, i, none⟩ = w'.cell? ⟨gB, i, none⟩ := World.cell?_of_block (w := w') hk
  rw [e]
  exact h i
theorem Fresh.put {w w1 : World} {gB N g9 n c : Nat} {t : TypeId} (hk : w1.heap[gB]? = w.heap[gB]?) (hB : ∃ cs, Blk w1 gB t cs) (hg : w.heap.size ≤ g9) : Fresh w (w1.setCell ⟨gB, N, none⟩ (.slice (some ⟨g9, 0, none⟩) n c)) gB := by
  intro i
  obtain ⟨cs, hB⟩ := hB
  have e : w1.cell? ⟨gB, i, none⟩ = w.cell? ⟨gB, i, none⟩ := World.cell?_of_block (w := w) hk
  rw [← e, (hB.set_ N _).cell_, hB.cell_, Array.getElem?_setIfInBounds]
  by_cases h1 : N = i
  · rw [if_pos h1]
    by_cases h2 : N < cs.size
    · rw [if_pos h2]
      exact Or.inr ⟨g9, n, c, rfl, hg⟩
    · rw [if_neg h2, Array.getElem?_eq_none (by omega)]
      exact Or.inl rfl
  · rw [if_neg h1]
    exact Or.inl rfl
end Go.Proofs.YtkpcohfdcilfcaaGreat
namespace Go.Proofs.YtkpcohfdcilfcaaGreat
open Go.ChangeShapes Go.WideShapes Go.ChangeAt Go.RowKit
end Go.Proofs.YtkpcohfdcilfcaaGreat
namespace Go.Proofs.YtkpcohfdcilfcaaGreat
open Go.ChangeShapes Go.WideShapes Go.ChangeAt Go.RowKit
end Go.Proofs.YtkpcohfdcilfcaaGreat
namespace Go.Proofs.YtkpcohfdcilfcaaGreat
open Go.ChangeShapes Go.WideShapes Go.ChangeAt Go.RowKit
end Go.Proofs.YtkpcohfdcilfcaaGreat
namespace Go.Proofs.YtkpcohfdcilfcaaGreat
open Go.ChangeShapes Go.WideShapes Go.ChangeAt Go.RowKit
end Go.Proofs.YtkpcohfdcilfcaaGreat
namespace Go.Proofs.YtkpcohfdcilfcaaGreat
open Go.ChangeShapes Go.WideShapes Go.ChangeAt Go.RowKit
end Go.Proofs.YtkpcohfdcilfcaaGreat
namespace Go.Proofs.YtkpcohfdcilfcaaGreat
open Go.ChangeShapes Go.WideShapes Go.ChangeAt Go.RowKit
theorem Wt.tick {s : ChS} (h : s.Wt) : s.tick.Wt := by
  unfold ChS.tick
  split
  · exact ⟨fun e => (by cases e), fun e => (by cases e)⟩
  · next hc =>
    refine ⟨fun e => ?_, fun e => h.w1 e⟩
    have e' : s.armed = true := e
    have h0 := h.w0 e'
    have : ¬ s.ops + 1 = s.turn := fun e2 => hc (by unfold ChS.cutB; rw [e', decide_eq_true e2]; rfl)
    show s.ops + 1 + 1 ≤ s.turn
    omega
theorem Wt.of {s s' : ChS} (h : s.Wt) (h1 : s'.armed = s.armed) (h2 : s'.turn = s.turn) (h3 : s'.ops = s.ops) : s'.Wt :=
  ⟨fun e => by rw [h2, h3]; exact h.w0 (h1 ▸ e), fun e => by rw [h2]; exact h.w1 (h1 ▸ e)⟩
theorem Wt.read {s : ChS} (h : s.Wt) (a b x y : Int) : (s.readS a b x y).Wt := by
  unfold ChS.readS
  split
  · exact Wt.tick h
  · exact h
theorem Wt.prog {s : ChS} (h : s.Wt) (a b c : Int) (fs : List Flt) (x y : Int) (bs : List Nat) : (s.progS a b c fs x y bs).Wt := by
  unfold ChS.progS
  split
  · split
    · split
      · exact Wt.of (Wt.tick h) rfl rfl rfl
      · exact Wt.of (Wt.tick h) rfl rfl rfl
    · exact Wt.tick h
  · exact h
theorem Wt.boot {s : ChS} (h : s.Wt) : s.boot.Wt := by
  unfold ChS.boot
  split
  · exact h
  · exact ⟨fun e => (by cases e), fun e => (by cases e)⟩
theorem Wt.arm {s : ChS} {n : Int} (h : s.Wt) (hb : s.Bnd n) (hn : n ≤ 900000000) (xo xb : Int) (xf : Nat) : (s.arm xo xb xf).Wt := by
  unfold ChS.arm
  split
  · next hc =>
    simp only [Bool.and_eq_true] at hc
    obtain ⟨_, hc⟩ := hc
    unfold armOkB at hc
    simp only [Bool.and_eq_true, decide_eq_true_eq] at hc
    obtain ⟨⟨⟨h1, h2⟩, h3⟩, h4⟩ := hc
    have := hb.o0
    have := hb.o1
    refine ⟨fun _ => ?_, fun _ => ?_⟩
    · show s.ops + 1 ≤ s.ops + xo
      omega
    · show s.ops + xo ≤ 4000000000
      omega
  · exact h
structure ChipL (w : World) (L : Nat) (m gx gb : Nat) (Af : Option Addr) (nf cf : Nat) (a b c d e : Int) (fs : List Flt) (s : ChS) : Prop where
  chip : ChipW w m gx gb Af nf cf a b c d e fs s
  low : ∀ g, chB m gx gb g → g < L
  lowF : fs = [] ∨ ∃ g off, Af = some ⟨g, off, none⟩ ∧ g < L
theorem ChipL.far {w w' : World} {L : Nat} {m gx gb : Nat} {Af : Option Addr} {nf cf : Nat} {a b c d e : Int} {fs : List Flt} {s : ChS} (h : ChipL w L m gx gb Af nf cf a b c d e fs s) {S : Nat → Prop} (hT : Tch S w w') (hs : ∀ g, S g → L ≤ g) : ChipL w' L m gx gb Af nf cf a b c d e fs s := by
  have hn : ∀ g, g < L → ¬ S g := fun g hg h1 => by have := hs g h1; omega
  obtain ⟨⟨⟨cx, cb, NX, NB, hX, hN, hcx, hB⟩, r1, r2, r3, n1, n2, n3, l1, l2, l3, l4⟩, lo, lf⟩ := h
  refine ⟨⟨⟨cx, cb, NX, NB, hX, hN, hcx, (hT.far m hB.lt (hn m (lo m (Or.inl rfl)))).trans hB⟩, r1.keep (hT.far gx r1.lt (hn gx (lo gx (Or.inr (Or.inl rfl))))), r2.keep (hT.far gb r2.lt (hn gb (lo gb (Or.inr (Or.inr rfl))))), ?_, n1, n2, n3, l1, l2, l3, l4⟩, lo, lf⟩
  rcases lf with lf | ⟨g, off, e, hg⟩
  · exact Or.inl lf
  · rcases r3 with r3 | ⟨g', off', e', hlt, h1, h2, h3, hc⟩
    · exact Or.inl r3
    · rw [e] at e'
      obtain ⟨rfl, rfl⟩ : g = g' ∧ off = off' := by cases e'; exact ⟨rfl, rfl⟩
      have hq : ∀ o, w'.cell? ⟨g, o, none⟩ = w.cell? ⟨g, o, none⟩ := fun o => World.cell?_of_block (w := w) (hT.far g hlt (hn g hg))
      exact Or.inr ⟨g, off, e, by have := hT.size; omega, h1, h2, h3, fun k f hf => by rw [hq, hq, hq]; exact hc k f hf⟩
theorem ChipL.next {w w' : World} {L : Nat} {m gx gb : Nat} {Af : Option Addr} {nf cf : Nat} {a b c d e : Int} {fs : List Flt} {s s' : ChS} (h : ChipL w L m gx gb Af nf cf a b c d e fs s) (hC : ChipW w' m gx gb Af nf cf a b c d e fs s') : ChipL w' L m gx gb Af nf cf a b c d e fs s' := ⟨hC, h.low, h.lowF⟩
end Go.Proofs.YtkpcohfdcilfcaaGreat
namespace Go.Proofs.YtkpcohfdcilfcaaGreat
open Go.ChangeShapes Go.WideShapes Go.ChangeAt Go.RowKit
theorem ChipL.below_ {w w' : World} {L : Nat} {m gx gb : Nat} {Af : Option Addr} {nf cf : Nat} {a b c d e : Int} {fs : List Flt} {s : ChS} (h : ChipL w L m gx gb Af nf cf a b c d e fs s) (hb : Below w.heap.size w w') : ChipL w' L m gx gb Af nf cf a b c d e fs s := ⟨h.chip.below hb, h.low, h.lowF⟩
def twB (m gx gb mR gB gN gW gD : Nat) (g : Nat) : Prop := chB m gx gb g ∨ (rfB mR gB gN gW gD) g
structure Good (s : ChS) (n : Int) : Prop where
  fine : Fine s n
  wt : s.Wt
theorem Good.mono {s : ChS} {n n' : Int} (h : Good s n) (hn : n ≤ n') : Good s n' := ⟨h.fine.mono hn, h.wt⟩
theorem Good.read {s : ChS} {n : Int} (h : Good s n) (a b x y : Int) : Good (s.readS a b x y) (n + 3) := by
  refine ⟨?_, Wt.read h.wt a b x y⟩
  unfold ChS.readS
  split
  · exact h.fine.tick.mono (by omega)
  · exact h.fine.mono (by omega)
theorem Good.prog {w : World} {m gx gb : Nat} {Af : Option Addr} {nf cf : Nat} {a b c d e : Int} {fs : List Flt} {s : ChS} (hC : ChipW w m gx gb Af nf cf a b c d e fs s) {n : Int} (h : Good s n) (x y : Int) (bs : List Nat) : Good (s.progS a b c fs x y bs) (n + 3) :=
  ⟨(prog_same hC h.fine x y bs (x.toNat + 1) (by omega)).2, Wt.prog h.wt a b c fs x y bs⟩
theorem Good.arm {s : ChS} {n : Int} (h : Good s n) (hn : n ≤ 900000000) (xo xb : Int) (xf : Nat) (hf : xf < 256) : Good (s.arm xo xb xf) (n + 3) :=
  ⟨((arm_same s 0 0 h.fine xo xb xf 0 hf).2).mono (by omega), Wt.arm h.wt h.fine.bnd hn xo xb xf⟩
theorem Good.boot {s : ChS} {n : Int} (h : Good s n) : Good s.boot (n + 3) := ⟨((boot_same s 0 0 h.fine 0).2).mono (by omega), Wt.boot h.wt⟩
end Go.Proofs.YtkpcohfdcilfcaaGreat
namespace Go.Proofs.YtkpcohfdcilfcaaGreat
open Go.ChangeShapes Go.WideShapes Go.ChangeAt Go.RowKit
attribute [local go_sem ↓] Go.wp_at_zero Go.wp_at_succ
theorem readB_8 {s : ChS} (h : Bytes8 s.X) (a b c x y : Int) : Bytes8 (s.readB a b c x y) := by
  unfold ChS.readB
  split
  · intro v hv
    exact h v (List.mem_of_mem_drop (List.mem_of_mem_take hv))
  · intro v hv
    simp at hv
theorem readB_le (s : ChS) (a b c x y : Int) (hc : c ≤ 64) : (s.readB a b c x y).length ≤ 1000000 := by
  unfold ChS.readB
  split
  · unfold ChS.pageOf
    rw [List.length_take]
    omega
  · simp
theorem readS_X (s : ChS) (a b x y : Int) : (s.readS a b x y).X = s.X := by
  unfold ChS.readS
  split
  · unfold ChS.tick
    split <;> rfl
  · rfl
theorem ChN.below_ {w w' : World} {L : Nat} {m gx gb : Nat} {Af : Option Addr} {nf cf : Nat} {a b c d e : Int} {fs : List Flt} {s : ChS} (h : ChN w L m gx gb Af nf cf a b c d e fs s) (hb : Below w.heap.size w w') : ChN w' L m gx gb Af nf cf a b c d e fs s := ⟨h.chip.below hb, h.low, h.lowF⟩
theorem ChN.geo {w : World} {L : Nat} {m gx gb : Nat} {Af : Option Addr} {nf cf : Nat} {a b c d e : Int} {fs : List Flt} {s : ChS} (h : ChN w L m gx gb Af nf cf a b c d e fs s) : mayB a b c d e = true ∧ 4 ≤ b ∧ b ≤ 8 ∧ 8 ≤ a ∧ a ≤ 20 ∧ c ≤ 64 := by
  obtain ⟨hm, -, -⟩ := planMay_bd h.chip.may
  obtain ⟨g1, g2, g3, g4, g5, g6, -⟩ := may_bd hm
  exact ⟨hm, g3, g4, g1, g2, g6⟩
structure Evscan (w0 : World) (n0 : Int) (m gx gb : Nat) (Af : Option Addr) (nf cf : Nat) (a b c d e : Int) (fs : List Flt) (L NA NB gs : Nat) (R : Int × List Vis × ChS) (wr : World) (i : Nat) (S : ChS) (acc : List Vis) (x y : Int) : Prop where
  chip : ChN wr L m gx gb Af nf cf a b c d e fs S
  pl : Blk wr w0.heap.size 68 #[.int .i64 x, .int .i64 y]
  pg : ∃ v0 v1 v2 v3 v4 v5, Blk wr (w0.heap.size + 1) 117 #[v0, v1, v2, v3, v4, v5]
  cap : (Cap wr gs (w0.heap.size + 2) (fdsOf acc))
  alen : acc.length ≤ i
  tch : Tch (fun g => chB m gx gb g ∨ g = gs ∨ w0.heap.size ≤ g) w0 wr
  good : Good S (n0 + 3 * (i : Int))
  by8 : Bytes8 S.X
  lt : i < NA * NB
  px : x = ((i / NB : Nat) : Int)
  py : y = ((i % NB : Nat) : Int)
def scanJ1 (w0 : World) (n0 : Int) (m gx gb : Nat) (Af : Option Addr) (nf cf : Nat) (a b c d e : Int) (fs : List Flt) (L NA NB gs : Nat) (R : Int × List Vis × ChS) (n : Nat) (a' : Act) (wr : World) : Prop := ∃ (i : Nat) (S : ChS) (acc : List Vis) (x y : Int) (u : Nat → Value),
  a' = { tmps := #[.pointer (some ⟨m, 0, none⟩), .func (.func 88) #[] #[.pointer (some ⟨gs, 0, none⟩)], u 2, u 3, .int .i64 0, .pointer (some ⟨w0.heap.size, 0, none⟩), .pointer (some ⟨w0.heap.size + 1, 0, none⟩), u 7, u 8, u 9, u 10, u 11, u 12, u 13, u 14, u 15, u 16, u 17, u 18, u 19, u 20, u 21, u 22, u 23, u 24, u 25, u 26, u 27, u 28, u 29, u 30, u 31, u 32, u 33, u 34, u 35], defers := [] } ∧ Evscan w0 n0 m gx gb Af nf cf a b c d e fs L NA NB gs R wr i S acc x y ∧ Hid (walkF a b c NB fs (NA * NB - i) i S acc = R) ∧ 2 * (NA * NB - i) + 1 ≤ n
structure Ewscan (w0 : World) (n0 : Int) (m gx gb : Nat) (Af : Option Addr) (nf cf : Nat) (a b c d e : Int) (fs : List Flt) (L NA NB gs : Nat) (R : Int × List Vis × ChS) (wr : World) (i : Nat) (S : ChS) (acc : List Vis) (x y : Int) : Prop where
  chip : ChN wr L m gx gb Af nf cf a b c d e fs S
  pl : Blk wr w0.heap.size 68 #[.int .i64 x, .int .i64 y]
  pg : ∃ v0 v1 v2 v3 v4 v5, Blk wr (w0.heap.size + 1) 117 #[v0, v1, v2, v3, v4, v5]
  cap : (Cap wr gs (w0.heap.size + 2) (fdsOf acc))
  alen : acc.length ≤ i + 1
  tch : Tch (fun g => chB m gx gb g ∨ g = gs ∨ w0.heap.size ≤ g) w0 wr
  good : Good S (n0 + 3 + 3 * (i : Int))
  by8 : Bytes8 S.X
  lt : i < NA * NB
  px : x = ((i / NB : Nat) : Int)
  py : y = ((i % NB : Nat) : Int)
def scanJ0 (w0 : World) (n0 : Int) (m gx gb : Nat) (Af : Option Addr) (nf cf : Nat) (a b c d e : Int) (fs : List Flt) (L NA NB gs : Nat) (R : Int × List Vis × ChS) (n : Nat) (a' : Act) (wr : World) : Prop := ∃ (i : Nat) (S : ChS) (acc : List Vis) (x y : Int) (u : Nat → Value),
  a' = { tmps := #[.pointer (some ⟨m, 0, none⟩), .func (.func 88) #[] #[.pointer (some ⟨gs, 0, none⟩)], u 2, u 3, .int .i64 0, .pointer (some ⟨w0.heap.size, 0, none⟩), .pointer (some ⟨w0.heap.size + 1, 0, none⟩), u 7, u 8, u 9, u 10, u 11, u 12, u 13, u 14, u 15, u 16, u 17, u 18, u 19, u 20, u 21, u 22, u 23, u 24, u 25, u 26, u 27, u 28, u 29, u 30, u 31, u 32, u 33, u 34, u 35], defers := [] } ∧ Ewscan w0 n0 m gx gb Af nf cf a b c d e fs L NA NB gs R wr i S acc x y ∧ Hid (walkF a b c NB fs (NA * NB - (i + 1)) (i + 1) S acc = R) ∧ 2 * (NA * NB - i) ≤ n
theorem scanJ1.mk {w0 : World} {n0 : Int} {m gx gb : Nat} {Af : Option Addr} {nf cf : Nat} {a b c d e : Int} {fs : List Flt} {L NA NB gs : Nat} {R : Int × List Vis × ChS} {n : Nat} {wr : World} {i : Nat} {S : ChS} {acc : List Vis} {x y : Int} {u2 u3 u7 u8 u9 u10 u11 u12 u13 u14 u15 u16 u17 u18 u19 u20 u21 u22 u23 u24 u25 u26 u27 u28 u29 u30 u31 u32 u33 u34 u35 : Value} (h : Evscan w0 n0 m gx gb Af nf cf a b c d e fs L NA NB gs R wr i S acc x y ∧ Hid (walkF a b c NB fs (NA * NB - i) i S acc = R) ∧ 2 * (NA * NB - i) + 1 ≤ n) : scanJ1 w0 n0 m gx gb Af nf cf a b c d e fs L NA NB gs R n { tmps := #[.pointer (some ⟨m, 0, none⟩), .func (.func 88) #[] #[.pointer (some ⟨gs, 0, none⟩)], u2, u3, .int .i64 0, .pointer (some ⟨w0.heap.size, 0, none⟩), .pointer (some ⟨w0.heap.size + 1, 0, none⟩), u7, u8, u9, u10, u11, u12, u13, u14, u15, u16, u17, u18, u19, u20, u21, u22, u23, u24, u25, u26, u27, u28, u29, u30, u31, u32, u33, u34, u35], defers := [] } wr :=
  ⟨i, S, acc, x, y, fun i => (#[undef, undef, u2, u3, undef, undef, undef, u7, u8, u9, u10, u11, u12, u13, u14, u15, u16, u17, u18, u19, u20, u21, u22, u23, u24, u25, u26, u27, u28, u29, u30, u31, u32, u33, u34, u35] : Array Value).getD i undef, rfl, h⟩
theorem scanJ0.mk {w0 : World} {n0 : Int} {m gx gb : Nat} {Af : Option Addr} {nf cf : Nat} {a b c d e : Int} {fs : List Flt} {L NA NB gs : Nat} {R : Int × List Vis × ChS} {n : Nat} {wr : World} {i : Nat} {S : ChS} {acc : List Vis} {x y : Int} {u2 u3 u7 u8 u9 u10 u11 u12 u13 u14 u15 u16 u17 u18 u19 u20 u21 u22 u23 u24 u25 u26 u27 u28 u29 u30 u31 u32 u33 u34 u35 : Value} (h : Ewscan w0 n0 m gx gb Af nf cf a b c d e fs L NA NB gs R wr i S acc x y ∧ Hid (walkF a b c NB fs (NA * NB - (i + 1)) (i + 1) S acc = R) ∧ 2 * (NA * NB - i) ≤ n) : scanJ0 w0 n0 m gx gb Af nf cf a b c d e fs L NA NB gs R n { tmps := #[.pointer (some ⟨m, 0, none⟩), .func (.func 88) #[] #[.pointer (some ⟨gs, 0, none⟩)], u2, u3, .int .i64 0, .pointer (some ⟨w0.heap.size, 0, none⟩), .pointer (some ⟨w0.heap.size + 1, 0, none⟩), u7, u8, u9, u10, u11, u12, u13, u14, u15, u16, u17, u18, u19, u20, u21, u22, u23, u24, u25, u26, u27, u28, u29, u30, u31, u32, u33, u34, u35], defers := [] } wr :=
  ⟨i, S, acc, x, y, fun i => (#[undef, undef, u2, u3, undef, undef, undef, u7, u8, u9, u10, u11, u12, u13, u14, u15, u16, u17, u18, u19, u20, u21, u22, u23, u24, u25, u26, u27, u28, u29, u30, u31, u32, u33, u34, u35] : Array Value).getD i undef, rfl, h⟩
def scanJ (w0 : World) (n0 : Int) (m gx gb : Nat) (Af : Option Addr) (nf cf : Nat) (a b c d e : Int) (fs : List Flt) (L NA NB gs : Nat) (R : Int × List Vis × ChS) (l n : Nat) (a' : Act) (wr : World) : Prop := (l = 1 ∧ scanJ1 w0 n0 m gx gb Af nf cf a b c d e fs L NA NB gs R n a' wr) ∨ (l = 0 ∧ scanJ0 w0 n0 m gx gb Af nf cf a b c d e fs L NA NB gs R n a' wr)
def scanE (w0 : World) (n0 : Int) (m gx gb : Nat) (Af : Option Addr) (nf cf : Nat) (a b c d e : Int) (fs : List Flt) (L NA NB gs : Nat) (R : Int × List Vis × ChS) (e' : Ending) (w' : World) : Prop := e' = .returned (.int .i64 R.1) ∧ ChipW w' m gx gb Af nf cf a b c d e fs R.2.2 ∧ (Cap w' gs (w0.heap.size + 2) (fdsOf R.2.1)) ∧ R.2.1.length ≤ 160 ∧ Tch (fun g => chB m gx gb g ∨ g = gs) w0 w' ∧ Good R.2.2 (n0 + 1000) ∧ Bytes8 R.2.2.X
theorem bad_v0 (m gx gb : Nat) (Af : Option Addr) (nf cf : Nat) (a b c d e : Int) (fs : List Flt) (B : Int) (W : Bool) (w : World) (s : ChS) (hC : ChipW w m gx gb Af nf cf a b c d e fs s) (hv : Hid (badB fs B = W)) : Calls Tryz.prog 53 #[.pointer (some ⟨m, 0, none⟩), .int .i64 B] w fun e' w' => e' = .returned (.bool W) ∧ Below w.heap.size w w' := by
  have := bad_any m gx gb Af nf cf a b c d e fs B w s hC
  rwa [hv.out] at this
theorem geometry_0 (m gx gb : Nat) (Af : Option Addr) (nf cf : Nat) (a b c d e : Int) (fs : List Flt) (w : World) (s : ChS) (hC : ChipW w m gx gb Af nf cf a b c d e fs s) : Calls Tryz.prog 51 #[.pointer (some ⟨m, 0, none⟩)] w fun e' w' => e' = .returned (.agg #[.int .i64 a, .int .i64 b, .int .i64 c, .int .i64 d, .int .i64 e]) ∧ Below w.heap.size w w' := by
  obtain ⟨cx, cb, NX, NB, hX, hN, hcx, hB⟩ := hC.blk
  have hB := hB.alloc_ (.cells #[.int .i64 0, .int .i64 0, .int .i64 0, .int .i64 0, .int .i64 0] 23)
  have HB0 : Below w.heap.size w (w.alloc (.cells #[.int .i64 0, .int .i64 0, .int .i64 0, .int .i64 0, .int .i64 0] 23)) := (Below.refl _ _).alloc (Nat.le_refl _) _
  have y0 := hB.cell_ 0; have y1 := hB.cell_ 1; have y2 := hB.cell_ 2; have y3 := hB.cell_ 3; have y4 := hB.cell_ 4
  simp at y0 y1 y2 y3 y4
  clear hC hB hX hN hcx
  go_enter Tryz.func51, Tryz.ntmps51
  go_wp2_with fail
  refine bodyPost_ret (v := .agg #[.int .i64 a, .int .i64 b, .int .i64 c, .int .i64 d, .int .i64 e]) (by simp [results, Tryz.results51, go_sem]) rfl ⟨rfl, ?_⟩
  exact (Below.refl _ _).alloc (Nat.le_refl _) _
theorem capK {S : Nat → Prop} {w w' : World} {gs base : Nat} {L : List Fd} (h : Cap w gs base L) (hT : Tch S w w') (h1 : ∀ g, (g = gs ∨ base ≤ g) → ¬ S g) : Cap w' gs base L := by
  obtain ⟨⟨v, hB, hR⟩, hlt⟩ := h
  refine ⟨⟨v, hT.blk hB (h1 gs (Or.inl rfl)), ?_⟩, hlt⟩
  obtain ⟨h2, h3⟩ := hR
  refine ⟨h2, ?_⟩
  rcases h3 with h3 | ⟨g', cap, cur, rfl, hb, hh, hr⟩
  · exact Or.inl h3
  · have hlt : g' < w.heap.size := by
      rcases Nat.lt_or_ge g' w.heap.size with hx | hx
      · exact hx
      · rw [Array.getElem?_eq_none hx] at hh
        cases hh
    exact Or.inr ⟨g', cap, cur, rfl, hb, (hT.far g' hlt (h1 g' (Or.inr hb))).trans hh, hr⟩
theorem Blk.ch {w w' : World} {g L m gx gb : Nat} {t : TypeId} {cs : Array Value} (h : Blk w g t cs) (hT : Tch (chB m gx gb) w w') (hlow : ∀ g, chB m gx gb g → g < L) (hg : L ≤ g) : Blk w' g t cs := hT.blk h (fun hc => by have := hlow _ hc; omega)
theorem each_scan (w0 : World) (n0 : Int) (m gx gb : Nat) (Af : Option Addr) (nf cf : Nat) (a b c d e : Int) (fs : List Flt) (L NA NB gs : Nat) (s : ChS) (R : Int × List Vis × ChS) (hC : ChN w0 L m gx gb Af nf cf a b c d e fs s) (hL : L ≤ w0.heap.size) (hgs : L ≤ gs ∧ gs < w0.heap.size) (hcap : (Cap w0 gs (w0.heap.size + 2) (fdsOf []))) (hg : Good s n0) (hn0 : n0 ≤ 800000000) (h8 : Bytes8 s.X) (hNA : (NA : Int) = a) (hNB : (NB : Int) = b) (hR : Hid (walkF a b c NB fs (NA * NB) 0 s [] = R)) :
    Calls Tryz.prog 87 #[.pointer (some ⟨m, 0, none⟩), .func (.func 88) #[] #[.pointer (some ⟨gs, 0, none⟩)]] w0 fun e' w' => scanE w0 n0 m gx gb Af nf cf a b c d e fs L NA NB gs R e' w' := by
  obtain ⟨hm, g3, g4, g1, g2, g6⟩ := hC.geo
  have hB0 : 0 < NB := by omega
  have hB8 : NB ≤ 8 := by omega
  have hA20 : NA ≤ 20 := by omega
  have hA0 : 0 < NA := by omega
  have hAB2 : NA * NB ≤ 160 := Nat.mul_le_mul hA20 hB8
  have hAB0 : 0 < NA * NB := Nat.mul_pos hA0 hB0
  have HM := Lib.hid hm
  have hlow := hC.low
  have HLAB := Lib.hid (And.intro hNA hNB)
  clear hm
  have HBW : Below w0.heap.size w0 ((w0.alloc (.cells #[.int .i64 0, .int .i64 0] 68)).alloc (.cells #[.slice none 0 0, .int .i64 0, .int .i64 0, .int .i64 0, .int .i64 0, .int .i64 0] 117)) := ((Below.refl _ _).alloc (Nat.le_refl _) _).alloc (by simp) _
  have HP3 : Blk ((w0.alloc (.cells #[.int .i64 0, .int .i64 0] 68)).alloc (.cells #[.slice none 0 0, .int .i64 0, .int .i64 0, .int .i64 0, .int .i64 0, .int .i64 0] 117)) w0.heap.size 68 #[.int .i64 0, .int .i64 0] := (Blk.new_ w0 _ _).alloc_ _
  have HP4 : Blk ((w0.alloc (.cells #[.int .i64 0, .int .i64 0] 68)).alloc (.cells #[.slice none 0 0, .int .i64 0, .int .i64 0, .int .i64 0, .int .i64 0, .int .i64 0] 117)) (w0.heap.size + 1) 117 #[.slice none 0 0, .int .i64 0, .int .i64 0, .int .i64 0, .int .i64 0, .int .i64 0] := blk_new (by simp)
  go_enter Tryz.func87, Tryz.ntmps87
  go_wp2
  refine wp_scope_many (scanJ w0 n0 m gx gb Af nf cf a b c d e fs L NA NB gs R) ?_ ?_
  · intro l N a' wr hJ hcut
    have HC := Lib.hid hcut
    clear hcut
    rcases hJ with ⟨rfl, hJ⟩ | ⟨rfl, hJ⟩
    · obtain ⟨i, S, acc, x, y, u, rfl, hE, hW, hN⟩ := hJ
      refine ⟨_, (by simp only [findLabel, Nat.reduceBEq, if_true, if_false, Bool.false_eq_true]; rfl), ?_⟩
      have hi := hE.lt
      have z0 := hE.pl.cell_ 0
      have z1 := hE.pl.cell_ 1
      simp at z0 z1
      obtain ⟨v0, v1, v2, v3, v4, v5, hpg⟩ := hE.pg
      have hstep : NA * NB - i = (NA * NB - (i + 1)) + 1 := by omega
      have HST := Lib.hid hstep
      clear hstep
      rcases (by cases hq : badB fs x <;> simp : badB fs x = true ∨ badB fs x = false) with hb | hb
      · have HBD := Lib.hid hb
        have HW0 : Hid (walkF a b c NB fs (NA * NB - (i + 1)) (i + 1) S acc = R) := Lib.hid (by have h := hW.out; rw [HST.out, walkF_bad (by rw [← hE.px]; exact hb)] at h; exact h)
        clear hb
        go_wp2_with (go_at_call 53; ((with_reducible refine (bad_v0 m gx gb Af nf cf a b c d e fs _ _ _ S hE.chip.chip HBD).mono ?_); rintro e' wB ⟨rfl, hbB⟩; have hplB := hE.pl.below hbB hE.pl.lt; have zb0 := hplB.cell_ 0; have zb1 := hplB.cell_ 1; simp at zb0 zb1))
        go_step3
        exact (show ∃ m', m' < N ∧ scanJ w0 n0 m gx gb Af nf cf a b c d e fs L NA NB gs R 0 m' _ _ from ⟨2 * (NA * NB - i), by omega, Or.inr ⟨rfl, scanJ0.mk ⟨⟨hE.chip.below_ hbB, hE.pl.below hbB hE.pl.lt, ⟨_, _, _, _, _, _, hpg.below hbB hpg.lt⟩, capK hE.cap (Tch.of_below (S := fun _ => False) hbB) (fun g hg hS => hS), Nat.le_succ_of_le hE.alen, hE.tch.then hbB, hE.good.mono (by omega), hE.by8, hE.lt, hE.px, hE.py⟩, HW0, Nat.le_refl _⟩⟩⟩)
      have HBD := Lib.hid hb
      obtain ⟨Z, hz⟩ : ∃ Z, S.readZ a b x y = Z := ⟨_, rfl⟩
      obtain ⟨S1, hs1⟩ : ∃ S1, S.readS a b x y = S1 := ⟨_, rfl⟩
      have HG1 : Hid (Good S1 (n0 + 3 + 3 * (i : Int))) := Lib.hid (by rw [← hs1]; exact (hE.good.read a b x y).mono (by omega))
      have HB1 : Hid (Bytes8 S1.X) := Lib.hid (by rw [← hs1, readS_X]; exact hE.by8)
      have hsz : w0.heap.size ≤ wr.heap.size := hE.tch.size
      by_cases hne : Z = 0
      · subst hne
        obtain ⟨bs, hbs⟩ : ∃ bs, S.readB a b c x y = bs := ⟨_, rfl⟩
        have H8B : Bytes8 bs := by rw [← hbs]; exact readB_8 hE.by8 a b c x y
        have HLB : bs.length ≤ 1000000 := by rw [← hbs]; exact readB_le S a b c x y g6
        have HZ := Lib.hid (And.intro hz (And.intro hbs hs1))
        obtain ⟨Dq, nq, Kq, Pq, Sq, Eq, stq, hlk⟩ := Lk.ex bs
        have HLK := Lib.hid hlk
        have HW0 : Hid (walkF a b c NB fs (NA * NB - (i + 1)) (i + 1) S1 (acc ++ [(i / NB, i % NB, bs)]) = R) := Lib.hid (by have h := hW.out; rw [HST.out, walkF_ok (S1 := S1) (bs := bs) (by rw [← hE.px]; exact hb) (by rw [← hE.px, ← hE.py]; exact hz) (by rw [← hE.px, ← hE.py]; exact hs1) (by rw [← hE.px, ← hE.py]; exact hbs)] at h; exact h)
        have HLI : Hid ((fdsOf acc ++ if stq = 1 then [(⟨((i / NB : Nat) : Int), ((i % NB : Nat) : Int), (Kq : Int), (Pq : Int), (Sq : Int), (Eq : Int)⟩ : Fd)] else []) = (if (stq : Int) = 1 then fdsOf acc ++ [(⟨x, y, (Kq : Int), (Pq : Int), (Sq : Int), (Eq : Int)⟩ : Fd)] else fdsOf acc)) := Lib.hid (by
          rw [hE.px, hE.py]
          by_cases h1 : stq = 1
          · rw [if_pos h1, if_pos (by omega)]
          · rw [if_neg h1, if_neg (by omega), List.append_nil])
        clear hb hz hs1 hbs hlk
        go_upto_region 9 with (first | (go_at_call 53; ((with_reducible refine (bad_v0 m gx gb Af nf cf a b c d e fs _ _ _ S hE.chip.chip HBD).mono ?_); rintro e' wB ⟨rfl, hbB⟩; have hplB := hE.pl.below hbB hE.pl.lt; have zb0 := hplB.cell_ 0; have zb1 := hplB.cell_ 1; simp at zb0 zb1)) | (go_at_call 130; ((with_reducible refine (look_yes m gx gb Af nf cf a b c d e fs x y (n0 + 3 * (i : Int)) _ S (hE.chip.below_ hbB).chip hE.good.fine (by omega) Dq nq Kq Pq Sq Eq stq S1 bs H8B HLB HZ HLK).mono ?_); rintro e' wL ⟨⟨Aq, cq, rfl, hoq⟩, hCW, hTL⟩; have hCL := (hE.chip.below_ hbB).next hCW; have hG4 := (hpg.below hbB hpg.lt).ch hTL hlow (by omega); have hG3 := (hE.pl.below hbB hE.pl.lt).ch hTL hlow (by omega); have hCP := capK (capK hE.cap (Tch.of_below (S := fun _ => False) hbB) (fun g hg hS => hS)) hTL (fun g hg hS => by have := hlow g hS; rcases hg with rfl | hg <;> omega); have hTT := (hE.tch.then hbB).trans (hTL.mono (S' := (fun g => chB m gx gb g ∨ g = gs ∨ w0.heap.size ≤ g)) (fun g hg => Or.inl hg)); obtain ⟨y0, y1, y2, y3, y4, y5⟩ := cells6 hG4; have y9 := hG4.free)))
        obtain ⟨wz, hwz⟩ : ∃ V : World, V = st6 wL (w0.heap.size + 1) (.slice Aq nq cq) (.int .i64 (Kq : Nat)) (.int .i64 (Pq : Nat)) (.int .i64 (Sq : Nat)) (.int .i64 (Eq : Nat)) (.int .i64 (stq : Nat)) := ⟨_, rfl⟩
        have HZ4 := st6_blk hG4 (.slice Aq nq cq) (.int .i64 (Kq : Nat)) (.int .i64 (Pq : Nat)) (.int .i64 (Sq : Nat)) (.int .i64 (Eq : Nat)) (.int .i64 (stq : Nat))
        have TZ := st6_tch wL (w0.heap.size + 1) (.slice Aq nq cq) (.int .i64 (Kq : Nat)) (.int .i64 (Pq : Nat)) (.int .i64 (Sq : Nat)) (.int .i64 (Eq : Nat)) (.int .i64 (stq : Nat))
        rw [← hwz] at HZ4 TZ
        unfold st6 at hwz
        rw [← hwz]
        clear hwz y0 y1 y2 y3 y4 y5 y9
        have hCZ := hCL.far TZ (fun g hg => by subst hg; omega)
        have hG3Z := TZ.blk hG3 (by omega)
        have hCPZ := capK hCP TZ (fun g hg hS => by subst hS; rcases hg with hg | hg <;> omega)
        have hTZ := hTT.trans (TZ.mono (S' := (fun g => chB m gx gb g ∨ g = gs ∨ w0.heap.size ≤ g)) (fun g hg => by subst hg; exact Or.inr (Or.inr (Nat.le_succ _))))
        have x0 := hG3Z.cell_ 0
        have x1 := hG3Z.cell_ 1
        simp at x0 x1
        obtain ⟨y0, y1, y2, y3, y4, y5⟩ := cells6 HZ4
        go_wp2_with (go_at_call 88; ((with_reducible refine (scan1_any x y (Kq : Nat) (Pq : Nat) (Sq : Nat) (Eq : Nat) (stq : Nat) Aq nq cq gs (w0.heap.size + 2) (fdsOf acc) _ hCPZ (by have := HZ4.lt; omega) (by have := fdsOf_len acc; have := hE.alen; omega)).mono ?_); rintro e' wS ⟨rfl, hCS, hTS⟩; have hcn := hlow))
        rename_i K hK
        go_step3
        show K _ _
        refine hK _ _ ?_
        exact HC.out 0 _ _ _ (show 2 * (NA * NB - i) < N by omega) (Or.inr ⟨rfl, scanJ0.mk ⟨⟨hCZ.far hTS (fun g hg => by rcases hg with hg | hg <;> omega), hTS.blk hG3Z (fun hg => by rcases hg with hg | hg <;> omega), ⟨_, _, _, _, _, _, hTS.blk HZ4 (fun hg => by rcases hg with hg | hg <;> omega)⟩, (by rw [fdsOf_snoc, fdOf_lk HLK.out]; have := hCS; rw [HLI.out]; exact this), by rw [List.length_append]; have := hE.alen; simp; omega, hTZ.trans (hTS.mono (S' := (fun g => chB m gx gb g ∨ g = gs ∨ w0.heap.size ≤ g)) (fun g hg => Or.inr (by rcases hg with hg | hg; exact Or.inl hg; exact Or.inr (by omega)))), HG1.out, HB1.out, hE.lt, hE.px, hE.py⟩, HW0, Nat.le_refl _⟩⟩) _ (by kernel_rfl)
      · have HZ := Lib.hid (And.intro (And.intro hz (And.intro trivial hs1)) hne)
        have HRE : Hid (R = (Z, acc, S1)) := Lib.hid (by have h := hW.out; rw [HST.out, walkF_err (S1 := S1) (Z := Z) (by rw [← hE.px]; exact hb) (by rw [← hE.px, ← hE.py]; exact hz) hne (by rw [← hE.px, ← hE.py]; exact hs1)] at h; exact h.symm)
        have hz1 : (Z == 0) = false := by simpa using hne
        have hz2 : (Z != 0) = true := by simpa using hne
        have hal := hE.alen
        clear hb hz hs1 hne
        go_upto_region 9 with (first | (go_at_call 53; ((with_reducible refine (bad_v0 m gx gb Af nf cf a b c d e fs _ _ _ S hE.chip.chip HBD).mono ?_); rintro e' wB ⟨rfl, hbB⟩; have hplB := hE.pl.below hbB hE.pl.lt; have zb0 := hplB.cell_ 0; have zb1 := hplB.cell_ 1; simp at zb0 zb1)) | (go_at_call 130; ((with_reducible refine (look_no m gx gb Af nf cf a b c d e fs x y (n0 + 3 * (i : Int)) _ S (hE.chip.below_ hbB).chip hE.good.fine (by omega) Z S1 (Lib.hid HZ.out.1) HZ.out.2).mono ?_); rintro e' wL ⟨rfl, hCW, hTL⟩; have hCL := (hE.chip.below_ hbB).next hCW; have hG4 := (hpg.below hbB hpg.lt).ch hTL hlow (by omega); have hG3 := (hE.pl.below hbB hE.pl.lt).ch hTL hlow (by omega); have hCP := capK (capK hE.cap (Tch.of_below (S := fun _ => False) hbB) (fun g hg hS => hS)) hTL (fun g hg hS => by have := hlow g hS; rcases hg with rfl | hg <;> omega); have hTT := (hE.tch.then hbB).trans (hTL.mono (S' := (fun g => chB m gx gb g ∨ g = gs ∨ w0.heap.size ≤ g)) (fun g hg => Or.inl hg)); obtain ⟨y0, y1, y2, y3, y4, y5⟩ := cells6 hG4; have y9 := hG4.free)))
        obtain ⟨wz, hwz⟩ : ∃ V : World, V = st6 wL (w0.heap.size + 1) (.slice none 0 0) (.int .i64 0) (.int .i64 0) (.int .i64 0) (.int .i64 0) (.int .i64 0) := ⟨_, rfl⟩
        have HZ4 := st6_blk hG4 (.slice none 0 0) (.int .i64 0) (.int .i64 0) (.int .i64 0) (.int .i64 0) (.int .i64 0)
        have TZ := st6_tch wL (w0.heap.size + 1) (.slice none 0 0) (.int .i64 0) (.int .i64 0) (.int .i64 0) (.int .i64 0) (.int .i64 0)
        rw [← hwz] at HZ4 TZ
        unfold st6 at hwz
        rw [← hwz]
        clear hwz y0 y1 y2 y3 y4 y5 y9
        have hCZ := hCL.far TZ (fun g hg => by subst hg; omega)
        have hG3Z := TZ.blk hG3 (by omega)
        have hCPZ := capK hCP TZ (fun g hg hS => by subst hS; rcases hg with hg | hg <;> omega)
        have hTZ := hTT.trans (TZ.mono (S' := (fun g => chB m gx gb g ∨ g = gs ∨ w0.heap.size ≤ g)) (fun g hg => by subst hg; exact Or.inr (Or.inr (Nat.le_succ _))))
        go_wp2_with fail
        refine jumpsQ_ret ?_
        go_ret
        unfold scanE
        rw [HRE.out]
        exact ⟨rfl, hCZ.chip, hCPZ, by show acc.length ≤ 160; omega, hTZ.monoL (fun g hg h => by rcases h with h | h | h; exact Or.inl h; exact Or.inr h; omega), HG1.out.mono (by omega), HB1.out⟩
    · obtain ⟨i, S, acc, x, y, u, rfl, hE, hW, hN⟩ := hJ
      refine ⟨_, (by simp only [findLabel, Nat.reduceBEq, if_true, if_false, Bool.false_eq_true]; rfl), ?_⟩
      have hi := hE.lt
      have z0 := hE.pl.cell_ 0
      have z1 := hE.pl.cell_ 1
      simp at z0 z1
      obtain ⟨v0, v1, v2, v3, v4, v5, hpg⟩ := hE.pg
      have hnx : ∀ (X Y : Int) (T : Bool), Hid (X = (if i + 1 < NA * NB then (((i + 1) / NB : Nat) : Int) else 0) ∧ Y = (if i + 1 < NA * NB then (((i + 1) % NB : Nat) : Int) else 0) ∧ T = decide (i + 1 < NA * NB)) → ∀ w : World, Calls Tryz.prog 131 #[.agg #[.int .i64 a, .int .i64 b, .int .i64 c, .int .i64 d, .int .i64 e], .agg #[.int .i64 x, .int .i64 y]] w fun e' w' => e' = .returned (.tuple #[.agg #[.int .i64 X, .int .i64 Y], .bool T]) ∧ Below w.heap.size w w' := fun X Y T hX w => by
        rw [hE.px, hE.py]
        exact next_at a b c d e NA NB i w HM.out HLAB.out.1 HLAB.out.2 hB0 hi X Y T hX
      by_cases hl : i + 1 < NA * NB
      · obtain ⟨X, hX⟩ : ∃ X : Int, X = (((i + 1) / NB : Nat) : Int) := ⟨_, rfl⟩
        obtain ⟨Y, hY⟩ : ∃ Y : Int, Y = (((i + 1) % NB : Nat) : Int) := ⟨_, rfl⟩
        have hcn := hnx X Y true (Lib.hid ⟨by rw [if_pos hl]; exact hX, by rw [if_pos hl]; exact hY, (decide_eq_true hl).symm⟩)
        have HXY := Lib.hid (And.intro hX hY)
        clear hnx hX hY
        have hCd : ChipW wr.drew m gx gb Af nf cf a b c d e fs S := hE.chip.chip.like
        go_upto_region 12 with fail
        refine wp_region_noPanic ?_
        refine wp_region_held_drew (S := (fun _ => True)) (by kernel_rfl) ?_ (fun hHeld => ?_)
        · exact trivial
        refine tk 0 ?_; try simp only [Act.put, pz1, pz2, pz3]
        refine wpAnyH_ready (rs := [1, 2]) (by kernel_rfl) (by simp) ?_
        refine (AllReadyH.cons (o := ⟨some 30, .call { callee := .value (.func 51), args := #[.tmp 29], argTypes := #[27] }, 23, "leaf.go:98", #[⟨0, .data⟩], none⟩) rfl (fun K hK => ?_) (AllReadyH.cons (o := ⟨some 31, .load 68 (.tmp 5), 68, "leaf.go:98", #[], none⟩) rfl (fun K hK => ?_) AllReadyH.nil))
        · go_simp
          (first | (go_at_call 51; ((with_reducible refine (geometry_0 m gx gb Af nf cf a b c d e fs _ S (by first | exact hE.chip.chip | exact hCd)).mono ?_); rintro e' wG ⟨rfl, hbG⟩; (try have hbG := undrew hbG); have hplG := hE.pl.below hbG hE.pl.lt; have k0 := hplG.cell_ 0; have k1 := hplG.cell_ 1; simp at k0 k1)) | (go_at_call 131; ((with_reducible refine (hcn _).mono ?_); rintro e' wX ⟨rfl, hbX⟩; have hplX := hplG.below hbX hplG.lt; have q0 := hplX.cell_ 0; have q1 := hplX.cell_ 1; simp at q0 q1; have q9 := hplX.free)))
          go_wp2_with fail
          refine hK.out _ _ ?_ (fun hNew => ?_)
          · exact trivial
          clear hK K hHeld
          have hHeld := hNew
          clear hNew
          try simp only [Act.put, pz1, pz2, pz3]
          refine wpAnyH_ready (rs := [2]) (by kernel_rfl) (by simp) ?_
          refine AllReadyH.cons (o := ⟨some 31, .load 68 (.tmp 5), 68, "leaf.go:98", #[], none⟩) rfl (fun K hK => ?_) AllReadyH.nil
          go_simp
          skip
          refine hK.out _ _ ?_ (fun hNew => ?_)
          · exact trivial
          clear hK K hHeld
          have hHeld := hNew
          clear hNew
          try simp only [Act.put, pz1, pz2, pz3]
          refine wpAnyH_ready (rs := [3]) (by kernel_rfl) (by simp) ?_
          refine AllReadyH.cons (o := ⟨some 32, .call { callee := .value (.func 131), args := #[.tmp 30, .tmp 31], argTypes := #[23, 68] }, 131, "leaf.go:98", #[⟨1, .data⟩, ⟨2, .data⟩, ⟨1, .chain⟩], none⟩) rfl (fun K hK => ?_) AllReadyH.nil
          go_simp
          (go_at_call 131; ((with_reducible refine (hcn _).mono ?_); rintro e' wX ⟨rfl, hbX⟩; have hplX := hplG.below hbX hplG.lt; have q0 := hplX.cell_ 0; have q1 := hplX.cell_ 1; simp at q0 q1; have q9 := hplX.free))
          go_wp2_with fail
          refine hK.out _ _ ?_ (fun hNew => ?_)
          · exact trivial
          clear hK K hHeld
          have hHeld := hNew
          clear hNew
          try simp only [Act.put, pz1, pz2, pz3]
          refine tk 4 ?_; try simp only [Act.put, pz1, pz2, pz3]
          refine tk 5 ?_; try simp only [Act.put, pz1, pz2, pz3]
          refine tk 6 ?_; try simp only [Act.put, pz1, pz2, pz3]
          refine wpAnyH_ready (rs := [7]) (by kernel_rfl) (by simp) ?_
          refine AllReadyH.cons (o := ⟨none, .store 68 (.tmp 5) (.tmp 33), 0, "leaf.go:98", #[⟨5, .data⟩, ⟨3, .chain⟩, ⟨0, .phase⟩, ⟨1, .phase⟩, ⟨2, .phase⟩, ⟨3, .phase⟩, ⟨4, .phase⟩, ⟨5, .phase⟩, { on := 6, ground := Ground.textOnly Departure.lateStores }], none⟩) rfl (fun K hK => ?_) AllReadyH.nil
          go_simp
          skip
          refine hK.out _ _ ?_ (fun hNew => ?_)
          · exact trivial
          clear hK K hHeld
          have hHeld := hNew
          clear hNew
          try simp only [Act.put, pz1, pz2, pz3]
          refine tk 8 ?_; try simp only [Act.put, pz1, pz2, pz3]
          refine wpAnyH_done (by kernel_rfl) ?_ _
          refine NoPanic.normal ?_
          clear hHeld
          go_wp2_with fail
          obtain ⟨wz, hwz⟩ : ∃ V : World, V = (wX.setCell ⟨w0.heap.size, 0, none⟩ (.int .i64 X)).setCell ⟨w0.heap.size, 1, none⟩ (.int .i64 Y) := ⟨_, rfl⟩
          have HZ3 : Blk ((wX.setCell ⟨w0.heap.size, 0, none⟩ (.int .i64 X)).setCell ⟨w0.heap.size, 1, none⟩ (.int .i64 Y)) w0.heap.size 68 #[.int .i64 X, .int .i64 Y] := (hplX.set_ 0 (.int .i64 X)).set_ 1 (.int .i64 Y)
          have TZ := (Tch.setm wX w0.heap.size 0 (.int .i64 X)).trans (Tch.setm _ w0.heap.size 1 (.int .i64 Y))
          rw [← hwz] at HZ3 TZ
          rw [← hwz]
          clear hwz
          have hCX := ((hE.chip.below_ hbG).below_ hbX).far TZ (fun g hg => by subst hg; omega)
          have hG4X := TZ.blk ((hpg.below hbG hpg.lt).below hbX (hpg.below hbG hpg.lt).lt) (by omega)
          have hCPX := capK (capK (capK hE.cap (Tch.of_below (S := fun _ => False) hbG) (fun g hg hS => hS)) (Tch.of_below (S := fun _ => False) hbX) (fun g hg hS => hS)) TZ (fun g hg hS => by subst hS; rcases hg with hg | hg <;> omega)
          have hTX := ((hE.tch.then hbG).then hbX).trans (TZ.mono (S' := (fun g => chB m gx gb g ∨ g = gs ∨ w0.heap.size ≤ g)) (fun g hg => by subst hg; exact Or.inr (Or.inr (Nat.le_refl _))))
          go_step3
          exact (show ∃ m', m' < N ∧ scanJ w0 n0 m gx gb Af nf cf a b c d e fs L NA NB gs R 1 m' _ _ from ⟨2 * (NA * NB - (i + 1)) + 1, by omega, Or.inl ⟨rfl, scanJ1.mk ⟨⟨hCX, HZ3, ⟨_, _, _, _, _, _, hG4X⟩, hCPX, hE.alen, hTX, hE.good.mono (by omega), hE.by8, hl, HXY.out.1, HXY.out.2⟩, hW, Nat.le_refl _⟩⟩⟩)
        · go_simp
          skip
          refine hK.out _ _ ?_ (fun hNew => ?_)
          · exact trivial
          clear hK K hHeld
          have hHeld := hNew
          clear hNew
          try simp only [Act.put, pz1, pz2, pz3]
          refine wpAnyH_ready (rs := [1]) (by kernel_rfl) (by simp) ?_
          refine AllReadyH.cons (o := ⟨some 30, .call { callee := .value (.func 51), args := #[.tmp 29], argTypes := #[27] }, 23, "leaf.go:98", #[⟨0, .data⟩], none⟩) rfl (fun K hK => ?_) AllReadyH.nil
          go_simp
          (go_at_call 51; ((with_reducible refine (geometry_0 m gx gb Af nf cf a b c d e fs _ S (by first | exact hE.chip.chip | exact hCd)).mono ?_); rintro e' wG ⟨rfl, hbG⟩; (try have hbG := undrew hbG); have hplG := hE.pl.below hbG hE.pl.lt; have k0 := hplG.cell_ 0; have k1 := hplG.cell_ 1; simp at k0 k1))
          go_wp2_with fail
          refine hK.out _ _ ?_ (fun hNew => ?_)
          · exact trivial
          clear hK K hHeld
          have hHeld := hNew
          clear hNew
          try simp only [Act.put, pz1, pz2, pz3]
          refine wpAnyH_ready (rs := [3]) (by kernel_rfl) (by simp) ?_
          refine AllReadyH.cons (o := ⟨some 32, .call { callee := .value (.func 131), args := #[.tmp 30, .tmp 31], argTypes := #[23, 68] }, 131, "leaf.go:98", #[⟨1, .data⟩, ⟨2, .data⟩, ⟨1, .chain⟩], none⟩) rfl (fun K hK => ?_) AllReadyH.nil
          go_simp
          (go_at_call 131; ((with_reducible refine (hcn _).mono ?_); rintro e' wX ⟨rfl, hbX⟩; have hplX := hplG.below hbX hplG.lt; have q0 := hplX.cell_ 0; have q1 := hplX.cell_ 1; simp at q0 q1; have q9 := hplX.free))
          go_wp2_with fail
          refine hK.out _ _ ?_ (fun hNew => ?_)
          · exact trivial
          clear hK K hHeld
          have hHeld := hNew
          clear hNew
          try simp only [Act.put, pz1, pz2, pz3]
          refine tk 4 ?_; try simp only [Act.put, pz1, pz2, pz3]
          refine tk 5 ?_; try simp only [Act.put, pz1, pz2, pz3]
          refine tk 6 ?_; try simp only [Act.put, pz1, pz2, pz3]
          refine wpAnyH_ready (rs := [7]) (by kernel_rfl) (by simp) ?_
          refine AllReadyH.cons (o := ⟨none, .store 68 (.tmp 5) (.tmp 33), 0, "leaf.go:98", #[⟨5, .data⟩, ⟨3, .chain⟩, ⟨0, .phase⟩, ⟨1, .phase⟩, ⟨2, .phase⟩, ⟨3, .phase⟩, ⟨4, .phase⟩, ⟨5, .phase⟩, { on := 6, ground := Ground.textOnly Departure.lateStores }], none⟩) rfl (fun K hK => ?_) AllReadyH.nil
          go_simp
          skip
          refine hK.out _ _ ?_ (fun hNew => ?_)
          · exact trivial
          clear hK K hHeld
          have hHeld := hNew
          clear hNew
          try simp only [Act.put, pz1, pz2, pz3]
          refine tk 8 ?_; try simp only [Act.put, pz1, pz2, pz3]
          refine wpAnyH_done (by kernel_rfl) ?_ _
          refine NoPanic.normal ?_
          clear hHeld
          go_wp2_with fail
          obtain ⟨wz, hwz⟩ : ∃ V : World, V = (wX.setCell ⟨w0.heap.size, 0, none⟩ (.int .i64 X)).setCell ⟨w0.heap.size, 1, none⟩ (.int .i64 Y) := ⟨_, rfl⟩
          have HZ3 : Blk ((wX.setCell ⟨w0.heap.size, 0, none⟩ (.int .i64 X)).setCell ⟨w0.heap.size, 1, none⟩ (.int .i64 Y)) w0.heap.size 68 #[.int .i64 X, .int .i64 Y] := (hplX.set_ 0 (.int .i64 X)).set_ 1 (.int .i64 Y)
          have TZ := (Tch.setm wX w0.heap.size 0 (.int .i64 X)).trans (Tch.setm _ w0.heap.size 1 (.int .i64 Y))
          rw [← hwz] at HZ3 TZ
          rw [← hwz]
          clear hwz
          have hCX := ((hE.chip.below_ hbG).below_ hbX).far TZ (fun g hg => by subst hg; omega)
          have hG4X := TZ.blk ((hpg.below hbG hpg.lt).below hbX (hpg.below hbG hpg.lt).lt) (by omega)
          have hCPX := capK (capK (capK hE.cap (Tch.of_below (S := fun _ => False) hbG) (fun g hg hS => hS)) (Tch.of_below (S := fun _ => False) hbX) (fun g hg hS => hS)) TZ (fun g hg hS => by subst hS; rcases hg with hg | hg <;> omega)
          have hTX := ((hE.tch.then hbG).then hbX).trans (TZ.mono (S' := (fun g => chB m gx gb g ∨ g = gs ∨ w0.heap.size ≤ g)) (fun g hg => by subst hg; exact Or.inr (Or.inr (Nat.le_refl _))))
          go_step3
          exact (show ∃ m', m' < N ∧ scanJ w0 n0 m gx gb Af nf cf a b c d e fs L NA NB gs R 1 m' _ _ from ⟨2 * (NA * NB - (i + 1)) + 1, by omega, Or.inl ⟨rfl, scanJ1.mk ⟨⟨hCX, HZ3, ⟨_, _, _, _, _, _, hG4X⟩, hCPX, hE.alen, hTX, hE.good.mono (by omega), hE.by8, hl, HXY.out.1, HXY.out.2⟩, hW, Nat.le_refl _⟩⟩⟩)
      · have hcn := hnx 0 0 false (Lib.hid ⟨by rw [if_neg hl], by rw [if_neg hl], (decide_eq_false hl).symm⟩)
        have HRE : Hid (R = (0, acc, S)) := Lib.hid (by have h := hW.out; rw [show NA * NB - (i + 1) = 0 by omega] at h; exact h.symm)
        have hal := hE.alen
        have hCd : ChipW wr.drew m gx gb Af nf cf a b c d e fs S := hE.chip.chip.like
        clear hnx
        go_upto_region 12 with fail
        refine wp_region_noPanic ?_
        refine wp_region_held_drew (S := (fun _ => True)) (by kernel_rfl) ?_ (fun hHeld => ?_)
        · exact trivial
        refine tk 0 ?_; try simp only [Act.put, pz1, pz2, pz3]
        refine wpAnyH_ready (rs := [1, 2]) (by kernel_rfl) (by simp) ?_
        refine (AllReadyH.cons (o := ⟨some 30, .call { callee := .value (.func 51), args := #[.tmp 29], argTypes := #[27] }, 23, "leaf.go:98", #[⟨0, .data⟩], none⟩) rfl (fun K hK => ?_) (AllReadyH.cons (o := ⟨some 31, .load 68 (.tmp 5), 68, "leaf.go:98", #[], none⟩) rfl (fun K hK => ?_) AllReadyH.nil))
        · go_simp
          (first | (go_at_call 51; ((with_reducible refine (geometry_0 m gx gb Af nf cf a b c d e fs _ S (by first | exact hE.chip.chip | exact hCd)).mono ?_); rintro e' wG ⟨rfl, hbG⟩; (try have hbG := undrew hbG); have hplG := hE.pl.below hbG hE.pl.lt; have k0 := hplG.cell_ 0; have k1 := hplG.cell_ 1; simp at k0 k1)) | (go_at_call 131; ((with_reducible refine (hcn _).mono ?_); rintro e' wX ⟨rfl, hbX⟩; have hplX := hplG.below hbX hplG.lt; have q0 := hplX.cell_ 0; have q1 := hplX.cell_ 1; simp at q0 q1; have q9 := hplX.free)))
          go_wp2_with fail
          refine hK.out _ _ ?_ (fun hNew => ?_)
          · exact trivial
          clear hK K hHeld
          have hHeld := hNew
          clear hNew
          try simp only [Act.put, pz1, pz2, pz3]
          refine wpAnyH_ready (rs := [2]) (by kernel_rfl) (by simp) ?_
          refine AllReadyH.cons (o := ⟨some 31, .load 68 (.tmp 5), 68, "leaf.go:98", #[], none⟩) rfl (fun K hK => ?_) AllReadyH.nil
          go_simp
          skip
          refine hK.out _ _ ?_ (fun hNew => ?_)
          · exact trivial
          clear hK K hHeld
          have hHeld := hNew
          clear hNew
          try simp only [Act.put, pz1, pz2, pz3]
          refine wpAnyH_ready (rs := [3]) (by kernel_rfl) (by simp) ?_
          refine AllReadyH.cons (o := ⟨some 32, .call { callee := .value (.func 131), args := #[.tmp 30, .tmp 31], argTypes := #[23, 68] }, 131, "leaf.go:98", #[⟨1, .data⟩, ⟨2, .data⟩, ⟨1, .chain⟩], none⟩) rfl (fun K hK => ?_) AllReadyH.nil
          go_simp
          (go_at_call 131; ((with_reducible refine (hcn _).mono ?_); rintro e' wX ⟨rfl, hbX⟩; have hplX := hplG.below hbX hplG.lt; have q0 := hplX.cell_ 0; have q1 := hplX.cell_ 1; simp at q0 q1; have q9 := hplX.free))
          go_wp2_with fail
          refine hK.out _ _ ?_ (fun hNew => ?_)
          · exact trivial
          clear hK K hHeld
          have hHeld := hNew
          clear hNew
          try simp only [Act.put, pz1, pz2, pz3]
          refine tk 4 ?_; try simp only [Act.put, pz1, pz2, pz3]
          refine tk 5 ?_; try simp only [Act.put, pz1, pz2, pz3]
          refine tk 6 ?_; try simp only [Act.put, pz1, pz2, pz3]
          refine wpAnyH_ready (rs := [7]) (by kernel_rfl) (by simp) ?_
          refine AllReadyH.cons (o := ⟨none, .store 68 (.tmp 5) (.tmp 33), 0, "leaf.go:98", #[⟨5, .data⟩, ⟨3, .chain⟩, ⟨0, .phase⟩, ⟨1, .phase⟩, ⟨2, .phase⟩, ⟨3, .phase⟩, ⟨4, .phase⟩, ⟨5, .phase⟩, { on := 6, ground := Ground.textOnly Departure.lateStores }], none⟩) rfl (fun K hK => ?_) AllReadyH.nil
          go_simp
          skip
          refine hK.out _ _ ?_ (fun hNew => ?_)
          · exact trivial
          clear hK K hHeld
          have hHeld := hNew
          clear hNew
          try simp only [Act.put, pz1, pz2, pz3]
          refine tk 8 ?_; try simp only [Act.put, pz1, pz2, pz3]
          refine wpAnyH_done (by kernel_rfl) ?_ _
          refine NoPanic.normal ?_
          clear hHeld
          go_wp2_with fail
          obtain ⟨wz, hwz⟩ : ∃ V : World, V = (wX.setCell ⟨w0.heap.size, 0, none⟩ (.int .i64 0)).setCell ⟨w0.heap.size, 1, none⟩ (.int .i64 0) := ⟨_, rfl⟩
          have HZ3 : Blk ((wX.setCell ⟨w0.heap.size, 0, none⟩ (.int .i64 0)).setCell ⟨w0.heap.size, 1, none⟩ (.int .i64 0)) w0.heap.size 68 #[.int .i64 0, .int .i64 0] := (hplX.set_ 0 (.int .i64 0)).set_ 1 (.int .i64 0)
          have TZ := (Tch.setm wX w0.heap.size 0 (.int .i64 0)).trans (Tch.setm _ w0.heap.size 1 (.int .i64 0))
          rw [← hwz] at HZ3 TZ
          rw [← hwz]
          clear hwz
          have hCX := ((hE.chip.below_ hbG).below_ hbX).far TZ (fun g hg => by subst hg; omega)
          have hG4X := TZ.blk ((hpg.below hbG hpg.lt).below hbX (hpg.below hbG hpg.lt).lt) (by omega)
          have hCPX := capK (capK (capK hE.cap (Tch.of_below (S := fun _ => False) hbG) (fun g hg hS => hS)) (Tch.of_below (S := fun _ => False) hbX) (fun g hg hS => hS)) TZ (fun g hg hS => by subst hS; rcases hg with hg | hg <;> omega)
          have hTX := ((hE.tch.then hbG).then hbX).trans (TZ.mono (S' := (fun g => chB m gx gb g ∨ g = gs ∨ w0.heap.size ≤ g)) (fun g hg => by subst hg; exact Or.inr (Or.inr (Nat.le_refl _))))
          refine jumpsQ_ret ?_
          go_ret
          unfold scanE
          rw [HRE.out]
          exact ⟨rfl, hCX.chip, hCPX, by show acc.length ≤ 160; omega, hTX.monoL (fun g hg h => by rcases h with h | h | h; exact Or.inl h; exact Or.inr h; omega), hE.good.mono (by omega), hE.by8⟩
        · go_simp
          skip
          refine hK.out _ _ ?_ (fun hNew => ?_)
          · exact trivial
          clear hK K hHeld
          have hHeld := hNew
          clear hNew
          try simp only [Act.put, pz1, pz2, pz3]
          refine wpAnyH_ready (rs := [1]) (by kernel_rfl) (by simp) ?_
          refine AllReadyH.cons (o := ⟨some 30, .call { callee := .value (.func 51), args := #[.tmp 29], argTypes := #[27] }, 23, "leaf.go:98", #[⟨0, .data⟩], none⟩) rfl (fun K hK => ?_) AllReadyH.nil
          go_simp
          (go_at_call 51; ((with_reducible refine (geometry_0 m gx gb Af nf cf a b c d e fs _ S (by first | exact hE.chip.chip | exact hCd)).mono ?_); rintro e' wG ⟨rfl, hbG⟩; (try have hbG := undrew hbG); have hplG := hE.pl.below hbG hE.pl.lt; have k0 := hplG.cell_ 0; have k1 := hplG.cell_ 1; simp at k0 k1))
          go_wp2_with fail
          refine hK.out _ _ ?_ (fun hNew => ?_)
          · exact trivial
          clear hK K hHeld
          have hHeld := hNew
          clear hNew
          try simp only [Act.put, pz1, pz2, pz3]
          refine wpAnyH_ready (rs := [3]) (by kernel_rfl) (by simp) ?_
          refine AllReadyH.cons (o := ⟨some 32, .call { callee := .value (.func 131), args := #[.tmp 30, .tmp 31], argTypes := #[23, 68] }, 131, "leaf.go:98", #[⟨1, .data⟩, ⟨2, .data⟩, ⟨1, .chain⟩], none⟩) rfl (fun K hK => ?_) AllReadyH.nil
          go_simp
          (go_at_call 131; ((with_reducible refine (hcn _).mono ?_); rintro e' wX ⟨rfl, hbX⟩; have hplX := hplG.below hbX hplG.lt; have q0 := hplX.cell_ 0; have q1 := hplX.cell_ 1; simp at q0 q1; have q9 := hplX.free))
          go_wp2_with fail
          refine hK.out _ _ ?_ (fun hNew => ?_)
          · exact trivial
          clear hK K hHeld
          have hHeld := hNew
          clear hNew
          try simp only [Act.put, pz1, pz2, pz3]
          refine tk 4 ?_; try simp only [Act.put, pz1, pz2, pz3]
          refine tk 5 ?_; try simp only [Act.put, pz1, pz2, pz3]
          refine tk 6 ?_; try simp only [Act.put, pz1, pz2, pz3]
          refine wpAnyH_ready (rs := [7]) (by kernel_rfl) (by simp) ?_
          refine AllReadyH.cons (o := ⟨none, .store 68 (.tmp 5) (.tmp 33), 0, "leaf.go:98", #[⟨5, .data⟩, ⟨3, .chain⟩, ⟨0, .phase⟩, ⟨1, .phase⟩, ⟨2, .phase⟩, ⟨3, .phase⟩, ⟨4, .phase⟩, ⟨5, .phase⟩, { on := 6, ground := Ground.textOnly Departure.lateStores }], none⟩) rfl (fun K hK => ?_) AllReadyH.nil
          go_simp
          skip
          refine hK.out _ _ ?_ (fun hNew => ?_)
          · exact trivial
          clear hK K hHeld
          have hHeld := hNew
          clear hNew
          try simp only [Act.put, pz1, pz2, pz3]
          refine tk 8 ?_; try simp only [Act.put, pz1, pz2, pz3]
          refine wpAnyH_done (by kernel_rfl) ?_ _
          refine NoPanic.normal ?_
          clear hHeld
          go_wp2_with fail
          obtain ⟨wz, hwz⟩ : ∃ V : World, V = (wX.setCell ⟨w0.heap.size, 0, none⟩ (.int .i64 0)).setCell ⟨w0.heap.size, 1, none⟩ (.int .i64 0) := ⟨_, rfl⟩
          have HZ3 : Blk ((wX.setCell ⟨w0.heap.size, 0, none⟩ (.int .i64 0)).setCell ⟨w0.heap.size, 1, none⟩ (.int .i64 0)) w0.heap.size 68 #[.int .i64 0, .int .i64 0] := (hplX.set_ 0 (.int .i64 0)).set_ 1 (.int .i64 0)
          have TZ := (Tch.setm wX w0.heap.size 0 (.int .i64 0)).trans (Tch.setm _ w0.heap.size 1 (.int .i64 0))
          rw [← hwz] at HZ3 TZ
          rw [← hwz]
          clear hwz
          have hCX := ((hE.chip.below_ hbG).below_ hbX).far TZ (fun g hg => by subst hg; omega)
          have hG4X := TZ.blk ((hpg.below hbG hpg.lt).below hbX (hpg.below hbG hpg.lt).lt) (by omega)
          have hCPX := capK (capK (capK hE.cap (Tch.of_below (S := fun _ => False) hbG) (fun g hg hS => hS)) (Tch.of_below (S := fun _ => False) hbX) (fun g hg hS => hS)) TZ (fun g hg hS => by subst hS; rcases hg with hg | hg <;> omega)
          have hTX := ((hE.tch.then hbG).then hbX).trans (TZ.mono (S' := (fun g => chB m gx gb g ∨ g = gs ∨ w0.heap.size ≤ g)) (fun g hg => by subst hg; exact Or.inr (Or.inr (Nat.le_refl _))))
          refine jumpsQ_ret ?_
          go_ret
          unfold scanE
          rw [HRE.out]
          exact ⟨rfl, hCX.chip, hCPX, by show acc.length ≤ 160; omega, hTX.monoL (fun g hg h => by rcases h with h | h | h; exact Or.inl h; exact Or.inr h; omega), hE.good.mono (by omega), hE.by8⟩
  · intro hcut
    have HC := Lib.hid hcut
    clear hcut
    go_wp2
    rename_i K hK
    go_step3
    show K _ _
    refine hK _ _ ?_
    exact HC.out 1 _ _ _ (Or.inl ⟨rfl, scanJ1.mk ⟨⟨hC.below_ HBW, HP3, ⟨_, _, _, _, _, _, HP4⟩, capK hcap (Tch.of_below (S := fun _ => False) HBW) (fun g hg hS => hS), Nat.zero_le _, Tch.of_below HBW, hg.mono (by omega), h8, hAB0, by rw [Nat.zero_div]; rfl, by rw [Nat.zero_mod]; rfl⟩, hR, Nat.le_refl _⟩⟩) _ (by kernel_rfl)
end Go.Proofs.YtkpcohfdcilfcaaGreat
namespace Go.Proofs.YtkpcohfdcilfcaaGreat
open Go.ChangeShapes Go.WideShapes Go.ChangeAt Go.RowKit
attribute [local go_sem ↓] Go.wp_at_zero Go.wp_at_succ
structure Evcount (w0 : World) (n0 : Int) (m gx gb : Nat) (Af : Option Addr) (nf cf : Nat) (a b c d e : Int) (fs : List Flt) (L NA NB ga gb2 gc : Nat) (R : Int × List Vis × ChS) (wr : World) (i : Nat) (S : ChS) (acc : List Vis) (x y : Int) : Prop where
  chip : ChN wr L m gx gb Af nf cf a b c d e fs S
  pl : Blk wr w0.heap.size 68 #[.int .i64 x, .int .i64 y]
  pg : ∃ v0 v1 v2 v3 v4 v5, Blk wr (w0.heap.size + 1) 117 #[v0, v1, v2, v3, v4, v5]
  cap : (Cnt wr ga gb2 gc (cnt (fun s => s == 0) acc) (cnt (fun s => s == 1) acc) (cnt (fun s => !(s == 0 || s == 1)) acc))
  alen : acc.length ≤ i
  tch : Tch (fun g => chB m gx gb g ∨ cB ga gb2 gc g ∨ w0.heap.size ≤ g) w0 wr
  good : Good S (n0 + 3 * (i : Int))
  by8 : Bytes8 S.X
  lt : i < NA * NB
  px : x = ((i / NB : Nat) : Int)
  py : y = ((i % NB : Nat) : Int)
structure Ewcount (w0 : World) (n0 : Int) (m gx gb : Nat) (Af : Option Addr) (nf cf : Nat) (a b c d e : Int) (fs : List Flt) (L NA NB ga gb2 gc : Nat) (R : Int × List Vis × ChS) (wr : World) (i : Nat) (S : ChS) (acc : List Vis) (x y : Int) : Prop where
  chip : ChN wr L m gx gb Af nf cf a b c d e fs S
  pl : Blk wr w0.heap.size 68 #[.int .i64 x, .int .i64 y]
  pg : ∃ v0 v1 v2 v3 v4 v5, Blk wr (w0.heap.size + 1) 117 #[v0, v1, v2, v3, v4, v5]
  cap : (Cnt wr ga gb2 gc (cnt (fun s => s == 0) acc) (cnt (fun s => s == 1) acc) (cnt (fun s => !(s == 0 || s == 1)) acc))
  alen : acc.length ≤ i + 1
  tch : Tch (fun g => chB m gx gb g ∨ cB ga gb2 gc g ∨ w0.heap.size ≤ g) w0 wr
  good : Good S (n0 + 3 + 3 * (i : Int))
  by8 : Bytes8 S.X
  lt : i < NA * NB
  px : x = ((i / NB : Nat) : Int)
  py : y = ((i % NB : Nat) : Int)
def countE (w0 : World) (n0 : Int) (m gx gb : Nat) (Af : Option Addr) (nf cf : Nat) (a b c d e : Int) (fs : List Flt) (L NA NB ga gb2 gc : Nat) (R : Int × List Vis × ChS) (e' : Ending) (w' : World) : Prop := e' = .returned (.int .i64 R.1) ∧ ChipW w' m gx gb Af nf cf a b c d e fs R.2.2 ∧ (Cnt w' ga gb2 gc (cnt (fun s => s == 0) R.2.1) (cnt (fun s => s == 1) R.2.1) (cnt (fun s => !(s == 0 || s == 1)) R.2.1)) ∧ R.2.1.length ≤ 160 ∧ Tch (fun g => chB m gx gb g ∨ cB ga gb2 gc g) w0 w' ∧ Good R.2.2 (n0 + 1000) ∧ Bytes8 R.2.2.X
end Go.Proofs.YtkpcohfdcilfcaaGreat
namespace Go.Proofs.YtkpcohfdcilfcaaGreat
open Go.ChangeShapes Go.WideShapes Go.ChangeAt Go.RowKit
attribute [local go_sem ↓] Go.wp_at_zero Go.wp_at_succ
theorem scan_ok (m gx gb : Nat) (Af : Option Addr) (nf cf : Nat) (a b c d e : Int) (fs : List Flt) (NA NB : Nat) (n0 : Int) (acc : List Vis) (s S1 : ChS) (w : World) (hC : ChipW w m gx gb Af nf cf a b c d e fs s) (hg : Good s n0) (hn0 : n0 ≤ 800000000) (h8 : Bytes8 s.X) (hNA : (NA : Int) = a) (hNB : (NB : Int) = b) (hR : Hid (walkF a b c NB fs (NA * NB) 0 s [] = (0, acc, S1))) (n : Nat) (hn : Hid ((fdsOf acc).length = n)) :
    Calls Tryz.prog 59 #[.pointer (some ⟨m, 0, none⟩)] w fun e' w' => (∃ A c', e' = .returned (.tuple #[.slice A n c', .int .i64 0]) ∧ RowFd w' w.heap.size (.slice A n c') (fdsOf acc)) ∧ ChipW w' m gx gb Af nf cf a b c d e fs S1 ∧ Tch (chB m gx gb) w w' ∧ Good S1 (n0 + 1000) ∧ Bytes8 S1.X := by
  have HN := hn
  have hCN := (ChN.start hC).below_ (show Below w.heap.size w (w.alloc (.cells #[.slice none 0 0] 93)) from (Below.refl _ _).alloc (Nat.le_refl _) _)
  have hsz1 : w.heap.size ≤ (w.alloc (.cells #[.slice none 0 0] 93)).heap.size := by simp
  have hB1 : Blk (w.alloc (.cells #[.slice none 0 0] 93)) w.heap.size 93 #[.slice none 0 0] := Blk.new_ _ _ _
  have hgs : w.heap.size ≤ w.heap.size ∧ w.heap.size < (w.alloc (.cells #[.slice none 0 0] 93)).heap.size := ⟨Nat.le_refl _, hB1.lt⟩
  have hcap : Cap (w.alloc (.cells #[.slice none 0 0] 93)) w.heap.size ((w.alloc (.cells #[.slice none 0 0] 93)).heap.size + 2) (fdsOf []) := ⟨⟨_, hB1, RowFd.nil_ _ _⟩, by have := hB1.lt; omega⟩
  have hBW : Below w.heap.size w (w.alloc (.cells #[.slice none 0 0] 93)) := (Below.refl _ _).alloc (Nat.le_refl _) _
  have HNA := Lib.hid (And.intro hNA hNB)
  have hmf : ∀ (fn : Fn) (first cap : Array Value) (w : World), (Instr.makeFunc fn first cap).run Tryz.prog w = .ok (.func fn first cap) w := fun _ _ _ _ => rfl
  go_enter Tryz.func59, Tryz.ntmps59
  go_wp2_with (go_at_call 87; ((with_reducible refine (each_scan (w.alloc (.cells #[.slice none 0 0] 93)) n0 m gx gb Af nf cf a b c d e fs w.heap.size NA NB w.heap.size s (0, acc, S1) hCN hsz1 hgs hcap hg hn0 h8 hNA hNB hR).mono ?_); rintro e' wE hX; obtain ⟨rfl, hCE, hKE, hlE, hTE, hGE, hBE⟩ := hX; obtain ⟨⟨v, hvB, hvR⟩, -⟩ := hKE; obtain ⟨A2, c2, hv, -, -, -⟩ := hvR.sl; rw [HN.out] at hv; subst hv; have z0 := hvB.cell_ 0; simp at z0))
  go_ret2
  refine ⟨⟨_, _, rfl, hvR.base (by simp; omega)⟩, hCE, ?_, hGE, hBE⟩
  exact ((Tch.of_below (S := fun g => chB m gx gb g ∨ g = w.heap.size) hBW).trans hTE).monoL (fun g hg h => by rcases h with h | h; exact h; omega)
end Go.Proofs.YtkpcohfdcilfcaaGreat
namespace Go.Proofs.YtkpcohfdcilfcaaGreat
open Go.ChangeShapes Go.WideShapes Go.ChangeAt Go.RowKit
attribute [local go_sem ↓] Go.wp_at_zero Go.wp_at_succ
theorem st4_tch (w : World) (g : Nat) (u0 u1 u2 u3 : Value) : Tch (fun x => x = g) w (st4 w g u0 u1 u2 u3) :=
  ((((Tch.setm w g 0 u0).trans (Tch.setm _ g 1 u1)).trans (Tch.setm _ g 2 u2)).trans (Tch.setm _ g 3 u3))
theorem load_yes (m gx gb : Nat) (Af : Option Addr) (nf cf : Nat) (a b c d e : Int) (fs : List Flt) (x y : Int) (n0 : Int) (w : World) (s : ChS) (hC : ChipW w m gx gb Af nf cf a b c d e fs s) (hs : Fine s n0) (hn0 : n0 ≤ 900000000) (D : List Nat) (n K P S E st : Nat) (S1 : ChS) (bs : List Nat) (h8 : Bytes8 bs) (hl : bs.length ≤ 1000000) (hZ : Hid (s.readZ a b x y = 0 ∧ s.readB a b c x y = bs ∧ s.readS a b x y = S1)) (hk : Hid (Lk bs D n K P S E st)) (hst : st = 1) :
    Calls Tryz.prog 114 #[.pointer (some ⟨m, 0, none⟩), .agg #[.int .i64 x, .int .i64 y]] w fun e' w' => (∃ A' c', e' = .returned (.tuple #[.slice A' n c', .agg #[.int .i64 (K : Nat), .int .i64 (P : Nat), .int .i64 (S : Nat), .int .i64 (E : Nat)], .int .i64 0]) ∧ w'.ownsRow w.heap.size 5 1 (.slice A' n c') n (D.map byteV)) ∧ ChipW w' m gx gb Af nf cf a b c d e fs S1 ∧ Tch (chB m gx gb) w w' := by
  have hB0 : Below w.heap.size w ((w.alloc (.cells #[.int .i64 x, .int .i64 y] 68)).alloc (.cells #[.int .i64 0, .int .i64 0, .int .i64 0, .int .i64 0] 109)) := ((Below.refl _ _).alloc (Nat.le_refl _) _).alloc (by simp) _
  have hC1 := hC.below hB0
  have G1 : Blk ((w.alloc (.cells #[.int .i64 x, .int .i64 y] 68)).alloc (.cells #[.int .i64 0, .int .i64 0, .int .i64 0, .int .i64 0] 109)) (w.heap.size + 1) 109 #[.int .i64 0, .int .i64 0, .int .i64 0, .int .i64 0] := blk_new (by simp)
  have hnt : ¬ chB m gx gb (w.heap.size + 1) := fun e => by have := hC.lt; rcases e with e | e | e <;> omega
  subst hst
  go_enter Tryz.func114, Tryz.ntmps114
  go_upto_region 4 with (go_at_call 130; ((with_reducible refine (look_yes m gx gb Af nf cf a b c d e fs x y n0 _ s hC1 hs hn0 D n K P S E 1 S1 bs h8 hl hZ hk).mono ?_); rintro e' wL ⟨⟨A2, c2, rfl, hoL⟩, hCL, hTL⟩; have hTL2 := (Tch.of_below (S := chB m gx gb) hB0).trans hTL; have GL := hTL.blk G1 hnt; have hszL := hTL.size))
  have HCN := (ChN.start hC).next hCL
  obtain ⟨wP, hwP⟩ : ∃ V : World, V = wL.alloc (.cells #[.slice A2 n c2, .int .i64 (K : Nat), .int .i64 (P : Nat), .int .i64 (S : Nat), .int .i64 (E : Nat), .int .i64 1] 117) := ⟨_, rfl⟩
  have HP : Blk wP wL.heap.size 117 #[.slice A2 n c2, .int .i64 (K : Nat), .int .i64 (P : Nat), .int .i64 (S : Nat), .int .i64 (E : Nat), .int .i64 1] := by rw [hwP]; exact Blk.new_ _ _ _
  have GP : Blk wP (w.heap.size + 1) 109 #[.int .i64 0, .int .i64 0, .int .i64 0, .int .i64 0] := by rw [hwP]; exact GL.alloc_ _
  have hBP : Below wL.heap.size wL wP := by rw [hwP]; exact (Below.refl _ _).alloc (Nat.le_refl _) _
  rw [← hwP]
  clear hwP
  have gz := GP.free
  obtain ⟨z0, z1, z2, z3⟩ : _ ∧ _ ∧ _ ∧ _ := ⟨GP.cell_ 0, GP.cell_ 1, GP.cell_ 2, GP.cell_ 3⟩
  simp at z0 z1 z2 z3
  obtain ⟨p0, p1, p2, p3, p4, p5⟩ := cells6 HP
  have hgL := GL.lt
  have HP4 := st4_far HP (show wL.heap.size ≠ w.heap.size + 1 by omega) (.int .i64 (K : Nat)) (.int .i64 (P : Nat)) (.int .i64 (S : Nat)) (.int .i64 (E : Nat))
  obtain ⟨q0, q1, q2, q3, q4, q5⟩ := cells6 HP4
  have HT4 := st4_blk GP (.int .i64 (K : Nat)) (.int .i64 (P : Nat)) (.int .i64 (S : Nat)) (.int .i64 (E : Nat))
  have HO4 := st4_own (g := w.heap.size + 1) (own_below hoL hBP) (show w.heap.size + 1 < ((w.alloc (.cells #[.int .i64 x, .int .i64 y] 68)).alloc (.cells #[.int .i64 0, .int .i64 0, .int .i64 0, .int .i64 0] 109)).heap.size by simp) (.int .i64 (K : Nat)) (.int .i64 (P : Nat)) (.int .i64 (S : Nat)) (.int .i64 (E : Nat))
  have HB4 : Below w.heap.size wP (st4 wP (w.heap.size + 1) (.int .i64 (K : Nat)) (.int .i64 (P : Nat)) (.int .i64 (S : Nat)) (.int .i64 (E : Nat))) := st4_below (Below.refl _ _) (by omega) (.int .i64 (K : Nat)) (.int .i64 (P : Nat)) (.int .i64 (S : Nat)) (.int .i64 (E : Nat))
  obtain ⟨wz, hwz⟩ : ∃ V : World, V = World.drew (st4 wP (w.heap.size + 1) (.int .i64 (K : Nat)) (.int .i64 (P : Nat)) (.int .i64 (S : Nat)) (.int .i64 (E : Nat))) := ⟨_, rfl⟩
  have TZ := st4_tch wP (w.heap.size + 1) (.int .i64 (K : Nat)) (.int .i64 (P : Nat)) (.int .i64 (S : Nat)) (.int .i64 (E : Nat))
  have hCZ0 := ((HCN.below_ (hBP.mono (Nat.le_refl _))).far TZ (fun g hg => by subst hg; omega)).chip
  have hCZ : ChipW (World.drew (st4 wP (w.heap.size + 1) (.int .i64 (K : Nat)) (.int .i64 (P : Nat)) (.int .i64 (S : Nat)) (.int .i64 (E : Nat)))) m gx gb Af nf cf a b c d e fs S1 := hCZ0.like
  have hTZ0 : Tch (chB m gx gb) w (st4 wP (w.heap.size + 1) (.int .i64 (K : Nat)) (.int .i64 (P : Nat)) (.int .i64 (S : Nat)) (.int .i64 (E : Nat))) := (((hTL2.then hBP).mono (S' := fun g => chB m gx gb g ∨ w.heap.size ≤ g) (fun g hg => Or.inl hg)).trans (TZ.mono (fun g hg => by subst hg; exact Or.inr (Nat.le_succ _)))).monoL (fun g hg h => by rcases h with h | h; exact h; omega)
  have hTZ : Tch (chB m gx gb) w (World.drew (st4 wP (w.heap.size + 1) (.int .i64 (K : Nat)) (.int .i64 (P : Nat)) (.int .i64 (S : Nat)) (.int .i64 (E : Nat)))) := hTZ0.like
  have hoZ : (World.drew (st4 wP (w.heap.size + 1) (.int .i64 (K : Nat)) (.int .i64 (P : Nat)) (.int .i64 (S : Nat)) (.int .i64 (E : Nat)))).ownsRow w.heap.size 5 1 (.slice A2 n c2) n (D.map byteV) := own_base HO4 (show w.heap.size ≤ ((w.alloc (.cells #[.int .i64 x, .int .i64 y] 68)).alloc (.cells #[.int .i64 0, .int .i64 0, .int .i64 0, .int .i64 0] 109)).heap.size by simp; omega)
  have HT5 : Blk (World.drew (st4 wP (w.heap.size + 1) (.int .i64 (K : Nat)) (.int .i64 (P : Nat)) (.int .i64 (S : Nat)) (.int .i64 (E : Nat)))) (w.heap.size + 1) 109 _ := HT4
  have r0 : (World.drew (st4 wP (w.heap.size + 1) (.int .i64 (K : Nat)) (.int .i64 (P : Nat)) (.int .i64 (S : Nat)) (.int .i64 (E : Nat)))).cell? ⟨w.heap.size + 1, 0, none⟩ = some (.int .i64 (K : Nat)) := HT5.cell_ 0
  have r1 : (World.drew (st4 wP (w.heap.size + 1) (.int .i64 (K : Nat)) (.int .i64 (P : Nat)) (.int .i64 (S : Nat)) (.int .i64 (E : Nat)))).cell? ⟨w.heap.size + 1, 1, none⟩ = some (.int .i64 (P : Nat)) := HT5.cell_ 1
  have r2 : (World.drew (st4 wP (w.heap.size + 1) (.int .i64 (K : Nat)) (.int .i64 (P : Nat)) (.int .i64 (S : Nat)) (.int .i64 (E : Nat)))).cell? ⟨w.heap.size + 1, 2, none⟩ = some (.int .i64 (S : Nat)) := HT5.cell_ 2
  have r3 : (World.drew (st4 wP (w.heap.size + 1) (.int .i64 (K : Nat)) (.int .i64 (P : Nat)) (.int .i64 (S : Nat)) (.int .i64 (E : Nat)))).cell? ⟨w.heap.size + 1, 3, none⟩ = some (.int .i64 (E : Nat)) := HT5.cell_ 3
  rw [← hwz] at hCZ hTZ hoZ r0 r1 r2 r3
  clear HO4 HB4 TZ HP4 HT4 HT5 hCZ0 hTZ0
  refine wp_region_noPanic ?_
  refine wp_region_held_drew (S := (fun w' => w'.cell? ⟨wL.heap.size, 0, none⟩ = some (.slice A2 n c2) ∧ w'.cell? ⟨wL.heap.size, 1, none⟩ = some (.int .i64 (K : Nat)) ∧ w'.cell? ⟨wL.heap.size, 2, none⟩ = some (.int .i64 (P : Nat)) ∧ w'.cell? ⟨wL.heap.size, 3, none⟩ = some (.int .i64 (S : Nat)) ∧ w'.cell? ⟨wL.heap.size, 4, none⟩ = some (.int .i64 (E : Nat)) ∧ w'.cell? ⟨wL.heap.size, 5, none⟩ = some (.int .i64 1))) (by kernel_rfl) ?_ (fun hHeld => ?_)
  · (first | with_reducible exact ⟨p0, p1, p2, p3, p4, p5⟩ | exact ⟨q0, q1, q2, q3, q4, q5⟩ | assumption | exact ⟨p0, p1, p2, p3, p4, p5⟩)
  refine tk 0 ?_; try simp only [Act.put, pz1, pz2, pz3]
  refine tk 1 ?_; try simp only [Act.put, pz1, pz2, pz3]
  refine tk 2 ?_; try simp only [Act.put, pz1, pz2, pz3]
  refine tk 3 ?_; try simp only [Act.put, pz1, pz2, pz3]
  refine tk 4 ?_; try simp only [Act.put, pz1, pz2, pz3]
  refine tk 5 ?_; try simp only [Act.put, pz1, pz2, pz3]
  refine wpAnyH_ready (rs := [6]) (by kernel_rfl) (by simp) ?_
  refine AllReadyH.cons (o := ⟨none, .store 109 (.tmp 5) (.tmp 25), 0, "leaf.go:39", #[⟨3, .data⟩, ⟨5, .chain⟩, ⟨0, .phase⟩, ⟨1, .phase⟩, ⟨2, .phase⟩, ⟨3, .phase⟩, { on := 4, ground := Ground.textOnly Departure.lateStores }, ⟨5, .phase⟩], none⟩) rfl (fun K hK => ?_) AllReadyH.nil
  go_simp
  refine hK.out _ _ ?_ (fun hNew => ?_)
  · (first | with_reducible exact ⟨p0, p1, p2, p3, p4, p5⟩ | exact ⟨q0, q1, q2, q3, q4, q5⟩ | assumption | exact ⟨p0, p1, p2, p3, p4, p5⟩)
  clear hK K hHeld
  have hHeld := hNew
  clear hNew
  try simp only [Act.put, pz1, pz2, pz3]
  refine tk 7 ?_; try simp only [Act.put, pz1, pz2, pz3]
  refine wpAnyH_done (by kernel_rfl) ?_ _
  refine NoPanic.normal ?_
  clear hHeld
  go_wp2_with fail
  show bodyPost _ _ _ _ _ (World.drew (st4 wP (w.heap.size + 1) (.int .i64 (K : Nat)) (.int .i64 (P : Nat)) (.int .i64 (S : Nat)) (.int .i64 (E : Nat))))
  rw [← hwz]
  refine bodyPost_ret (v := .tuple #[.slice A2 n c2, .agg #[.int .i64 (K : Nat), .int .i64 (P : Nat), .int .i64 (S : Nat), .int .i64 (E : Nat)], .int .i64 0]) (by simp [results, Tryz.results114, go_sem, r0, r1, r2, r3]) rfl ⟨⟨_, _, rfl, hoZ⟩, hCZ, hTZ⟩
end Go.Proofs.YtkpcohfdcilfcaaGreat
namespace Go.Proofs.YtkpcohfdcilfcaaGreat
open Go.ChangeShapes Go.WideShapes Go.ChangeAt Go.RowKit
attribute [local go_sem ↓] Go.wp_at_zero Go.wp_at_succ
theorem own_tch {w w' : World} {base n z : Nat} {t : TypeId} {v : Value} {xs : List Value} (h : w.ownsRow base t z v n xs) {q : Nat} (hq : q < base) (hT : Tch (fun g => g = q) w w') : w'.ownsRow base t z v n xs := by
  obtain ⟨h0, h | ⟨g, cap, cur, h1, h2, h3, h4⟩⟩ := h
  · exact ⟨h0, Or.inl h⟩
  · exact ⟨h0, Or.inr ⟨g, cap, cur, h1, h2, (hT.far g (Array.getElem?_eq_some_iff.1 h3).1 (by omega)).trans h3, h4⟩⟩
theorem current_kept (F : FlK) (a b c d e : Int) (fs : List Flt) (L N : Nat) (s : FlS) (k : Nat) (x : Wt) (n0 : Int) (w : World) (hF : FlW w F a b c d e fs L N s) (hs : Fine s.ch n0) (hn0 : n0 ≤ 900000000) (hx : s.wt[k]? = some x) (hk1 : (x.kind == 1) = false) (hB : hasB s.kA (k : Int) = true) (X Y : Int) (hX : s.kA.getD k (-1) / b = X) (hY : s.kA.getD k (-1) % b = Y) (D : List Nat) (n T P S E : Nat) (S1 : ChS) (bs : List Nat) (h8 : Bytes8 bs) (hl : bs.length ≤ 1000000) (hZ : Hid (s.ch.readZ a b X Y = 0 ∧ s.ch.readB a b c X Y = bs ∧ s.ch.readS a b X Y = S1)) (hlk : Hid (Lk bs D n T P S E 1)) :
    Calls Tryz.prog 72 #[.pointer (some ⟨F.fm, 0, none⟩), .int .i64 (k : Int)] w fun e' w' => (∃ A' c', e' = .returned (.tuple #[.slice A' n c', .int .i64 0]) ∧ w'.ownsRow w.heap.size 5 1 (.slice A' n c') n (D.map byteV)) ∧ FlW w' F a b c d e fs L N { s with ch := S1 } ∧ Tch (FlB F) w w' := by
  have hk : k < L := by have := (List.getElem?_eq_some_iff.1 hx).1; have := hF.lwt; omega
  have k16 := hF.c16
  have k10 := hF.c10
  obtain ⟨x', A, cA, hx', hA, y0, y1, -⟩ := hF.wt_ hk
  obtain rfl : x = x' := by rw [hx] at hx'; exact Option.some.inj hx'
  have i0 : (0 : Int) ≤ (k : Int) := by omega
  have i1 : (k : Int) < (L : Int) := by omega
  have HB := Lib.hid hB
  have HX := Lib.hid hX
  have HY := Lib.hid hY
  clear hB hX hY
  go_enter Tryz.func72, Tryz.ntmps72
  go_upto_region 4 with ((go_at_call 113; ((with_reducible refine (at_f F a b c d e fs L N s k _ hF _ HB.out).mono ?_); rintro e' w1 ⟨⟨X1, Y1, rfl, hXY⟩, b1⟩; have hG := hF.below b1; obtain ⟨e1, e2⟩ := hXY rfl; rw [HX.out] at e1; rw [HY.out] at e2; subst e1; subst e2; clear hXY)))
  obtain ⟨V, hV⟩ : ∃ V : World, V = w1.alloc (.cells #[.int .i64 X1, .int .i64 Y1] 68) := ⟨_, rfl⟩
  have bV : Below w.heap.size w V := by rw [hV]; exact b1.alloc b1.size _
  have BG : Blk V w1.heap.size 68 #[.int .i64 X1, .int .i64 Y1] := by rw [hV]; exact Blk.new_ _ _ _
  rw [← hV]
  obtain ⟨g0, hg0⟩ : ∃ g, w1.heap.size = g := ⟨_, rfl⟩
  rw [hg0] at BG ⊢
  have hg0w : w.heap.size ≤ g0 := by rw [← hg0]; exact b1.size
  clear hV hg0
  have hGV := (hF.below bV).drew_
  have BD := BG.drew_F
  have hVA : Below V.heap.size V (V.alloc (.cells #[.int .i64 0, .int .i64 0, .int .i64 0, .int .i64 0] 109)) := (Below.refl _ _).alloc (Nat.le_refl _) _
  have hGA := ((hF.below bV).below hVA).drew_
  have BA := (BG.below hVA BG.lt).drew_F
  have GN := (Blk.new_ V 109 #[.int .i64 0, .int .i64 0, .int .i64 0, .int .i64 0]).drew_F
  obtain ⟨p0, p1⟩ : _ ∧ _ := ⟨BD.cell_ 0, BD.cell_ 1⟩
  obtain ⟨r0, r1⟩ : _ ∧ _ := ⟨BA.cell_ 0, BA.cell_ 1⟩
  simp at p0 p1 r0 r1
  have QD := And.intro hGV.c0 (And.intro p0 p1)
  have QA := And.intro hGA.c0 (And.intro r0 r1)
  have bD : Below w.heap.size w V.drew := btr bV bV.size (below_dr V)
  have bA : Below w.heap.size w (V.alloc (.cells #[.int .i64 0, .int .i64 0, .int .i64 0, .int .i64 0] 109)).drew := btr (btr bV bV.size hVA) (btr bV bV.size hVA).size (below_dr _)
  have hVw : w.heap.size ≤ V.heap.size := bV.size
  have hgV : g0 < V.heap.size := BG.lt
  have hnV : ¬ FlB F V.heap.size := fun hh => by have := hF.lt _ (Or.inl hh); omega
  have hsz : (V.alloc (.cells #[.int .i64 0, .int .i64 0, .int .i64 0, .int .i64 0] 109)).drew.heap.size = V.heap.size + 1 := by
    show (V.heap.push _).size = _
    simp
  have hgn : ¬ FlB F g0 := fun hh => by have := hF.lt _ (Or.inl hh); omega
  refine wp_region_noPanic ?_
  refine wp_region_held_drew (S := (fun w_ => w_.cell? ⟨F.fm, 0, none⟩ = some (.pointer (some ⟨F.m, 0, none⟩)) ∧ w_.cell? ⟨g0, 0, none⟩ = some (.int .i64 X1) ∧ w_.cell? ⟨g0, 1, none⟩ = some (.int .i64 Y1))) (by kernel_rfl) ?_ (fun hHeld => ?_)
  · (first | with_reducible exact QNA _ | exact QNA | with_reducible exact QD | with_reducible exact QA | with_reducible exact QN | assumption)
  refine tk 0 ?_; try simp only [Act.put, pz1, pz2, pz3]
  refine tk 1 ?_; try simp only [Act.put, pz1, pz2, pz3]
  refine tk 2 ?_; try simp only [Act.put, pz1, pz2, pz3]
  refine tk 3 ?_; try simp only [Act.put, pz1, pz2, pz3]
  refine tk 4 ?_; try simp only [Act.put, pz1, pz2, pz3]
  refine wpAnyH_ready (rs := [5, 10]) (by kernel_rfl) (by simp) ?_
  refine (AllReadyH.cons (o := ⟨some 44, .call { callee := .value (.func 114), args := #[.tmp 42, .tmp 43], argTypes := #[27, 68] }, 133, "flash.go:116", #[⟨3, .data⟩, ⟨4, .data⟩], none⟩) rfl (fun K hK => ?_) (AllReadyH.cons (o := ⟨some 9, .alloc 109, 0, "flash.go:116", #[], none⟩) rfl (fun K hK => ?_) AllReadyH.nil))
  · go_simp
    (first | (go_at_call 114; ((with_reducible refine (load_yes F.m F.gx F.gb F.Af F.nf F.cf a b c d e fs X1 Y1 n0 _ s.ch hGV.chip hs hn0 D n T P S E 1 S1 bs h8 hl hZ hlk rfl).mono ?_); rintro e' w5 ⟨⟨A5, c5, rfl, ho5⟩, hC5, hT5⟩; have hG5 := hGV.chip_ hC5 hT5; have B5 := (hT5.mono (fun g h => flB_chip h)).blk BD hgn; have u0 := B5.cell_ 0; have u1 := B5.cell_ 1; simp at u0 u1; have QN := And.intro hG5.c0 (And.intro u0 u1); have T5 := (tch_bel bD).trans (hT5.mono (fun g h => flB_chip h)); have ho6 := own_base ho5 bD.size; have QNA : ∀ cs, (w5.alloc (.cells cs 109)).cell? ⟨F.fm, 0, none⟩ = some (.pointer (some ⟨F.m, 0, none⟩)) ∧ (w5.alloc (.cells cs 109)).cell? ⟨g0, 0, none⟩ = some (.int .i64 X1) ∧ (w5.alloc (.cells cs 109)).cell? ⟨g0, 1, none⟩ = some (.int .i64 Y1) := fun cs => (by have U := B5.below ((Below.refl w5.heap.size w5).alloc (Nat.le_refl _) (.cells cs 109)) B5.lt; have u0 := U.cell_ 0; have u1 := U.cell_ 1; simp at u0 u1; exact ⟨(hG5.below ((Below.refl w5.heap.size w5).alloc (Nat.le_refl _) (.cells cs 109))).c0, u0, u1⟩))) | (go_at_call 114; ((with_reducible refine (load_yes F.m F.gx F.gb F.Af F.nf F.cf a b c d e fs X1 Y1 n0 _ s.ch hGA.chip hs hn0 D n T P S E 1 S1 bs h8 hl hZ hlk rfl).mono ?_); rintro e' w5 ⟨⟨A5, c5, rfl, ho5⟩, hC5, hT5⟩; have hG5 := hGA.chip_ hC5 hT5; have B5 := (hT5.mono (fun g h => flB_chip h)).blk BA hgn; have u0 := B5.cell_ 0; have u1 := B5.cell_ 1; simp at u0 u1; have QN := And.intro hG5.c0 (And.intro u0 u1); have T5 := (tch_bel bA).trans (hT5.mono (fun g h => flB_chip h)); have ho6 := own_base ho5 bA.size; have BN5 := (hT5.mono (fun g h => flB_chip h)).blk GN hnV; have m0 := BN5.cell_ 0; have m1 := BN5.cell_ 1; have m2 := BN5.cell_ 2; have m3 := BN5.cell_ 3; simp at m0 m1 m2 m3; have f0 := BN5.free 0; have f1 := BN5.free 1; have f2 := BN5.free 2; have f3 := BN5.free 3; have TS : Tch (fun g => g = V.heap.size) w5 ((((w5.setCell ⟨V.heap.size, 0, none⟩ (.int .i64 (T : Int))).setCell ⟨V.heap.size, 1, none⟩ (.int .i64 (P : Int))).setCell ⟨V.heap.size, 2, none⟩ (.int .i64 (S : Int))).setCell ⟨V.heap.size, 3, none⟩ (.int .i64 (E : Int))) := (((Tch.setm w5 V.heap.size 0 _).trans (Tch.setm _ V.heap.size 1 _)).trans (Tch.setm _ V.heap.size 2 _)).trans (Tch.setm _ V.heap.size 3 _); have GS := hG5.far TS (fun g hu e => by have := hF.lt g hu; omega); have BS := TS.blk B5 (by omega); have v0 := BS.cell_ 0; have v1 := BS.cell_ 1; simp at v0 v1; have QNA := And.intro GS.c0 (And.intro v0 v1))))
    go_wp2_with fail
    refine hK.out _ _ ?_ (fun hNew => ?_)
    · (first | with_reducible exact QNA _ | exact QNA | with_reducible exact QD | with_reducible exact QA | with_reducible exact QN | assumption)
    clear hK K hHeld
    have hHeld := hNew
    clear hNew
    try simp only [Act.put, pz1, pz2, pz3]
    refine tk 6 ?_; try simp only [Act.put, pz1, pz2, pz3]
    refine tk 7 ?_; try simp only [Act.put, pz1, pz2, pz3]
    refine tk 8 ?_; try simp only [Act.put, pz1, pz2, pz3]
    refine tk 9 ?_; try simp only [Act.put, pz1, pz2, pz3]
    refine wpAnyH_ready (rs := [10]) (by kernel_rfl) (by simp) ?_
    refine AllReadyH.cons (o := ⟨some 9, .alloc 109, 0, "flash.go:116", #[], none⟩) rfl (fun K hK => ?_) AllReadyH.nil
    go_simp
    skip
    refine hK.out _ _ ?_ (fun hNew => ?_)
    · (first | with_reducible exact QNA _ | exact QNA | with_reducible exact QD | with_reducible exact QA | with_reducible exact QN | assumption)
    clear hK K hHeld
    have hHeld := hNew
    clear hNew
    try simp only [Act.put, pz1, pz2, pz3]
    refine tk 11 ?_; try simp only [Act.put, pz1, pz2, pz3]
    refine wpAnyH_ready (rs := [12]) (by kernel_rfl) (by simp) ?_
    refine AllReadyH.cons (o := ⟨none, .store 109 (.tmp 9) (.tmp 46), 0, "flash.go:116", #[⟨10, .data⟩, ⟨8, .data⟩, ⟨11, .chain⟩, ⟨0, .phase⟩, ⟨1, .phase⟩, ⟨2, .phase⟩, ⟨3, .phase⟩, ⟨4, .phase⟩, ⟨5, .phase⟩, ⟨6, .phase⟩, ⟨7, .phase⟩, ⟨8, .phase⟩, { on := 9, ground := Ground.textOnly Departure.lateStores }, ⟨10, .phase⟩, ⟨11, .phase⟩], none⟩) rfl (fun K hK => ?_) AllReadyH.nil
    go_simp
    skip
    refine hK.out _ _ ?_ (fun hNew => ?_)
    · (first | with_reducible exact QNA _ | exact QNA | with_reducible exact QD | with_reducible exact QA | with_reducible exact QN | assumption)
    clear hK K hHeld
    have hHeld := hNew
    clear hNew
    try simp only [Act.put, pz1, pz2, pz3]
    refine tk 13 ?_; try simp only [Act.put, pz1, pz2, pz3]
    refine wpAnyH_done (by kernel_rfl) ?_ _
    refine NoPanic.normal ?_
    go_wp2_with fail
    go_ret2
    first
      | exact ⟨⟨A5, c5, rfl, own_below ho6 ((Below.refl w5.heap.size w5).alloc (Nat.le_refl _) _)⟩, hG5.below ((Below.refl w5.heap.size w5).alloc (Nat.le_refl _) _), T5.trans (tch_bel ((Below.refl w5.heap.size w5).alloc (Nat.le_refl _) _))⟩
      | exact ⟨⟨A5, c5, rfl, own_base (own_tch ho5 (by omega) TS) bA.size⟩, GS, (T5.mono (S' := fun g => FlB F g ∨ g = V.heap.size) (fun g h => Or.inl h) |>.trans (TS.mono (fun g h => Or.inr h))).monoL (fun g hg h => by
          rcases h with h | h
          · exact h
          · omega)⟩
  · go_simp
    skip
    refine hK.out _ _ ?_ (fun hNew => ?_)
    · (first | with_reducible exact QNA _ | exact QNA | with_reducible exact QD | with_reducible exact QA | with_reducible exact QN | assumption)
    clear hK K hHeld
    have hHeld := hNew
    clear hNew
    try simp only [Act.put, pz1, pz2, pz3]
    refine wpAnyH_ready (rs := [5]) (by kernel_rfl) (by simp) ?_
    refine AllReadyH.cons (o := ⟨some 44, .call { callee := .value (.func 114), args := #[.tmp 42, .tmp 43], argTypes := #[27, 68] }, 133, "flash.go:116", #[⟨3, .data⟩, ⟨4, .data⟩], none⟩) rfl (fun K hK => ?_) AllReadyH.nil
    go_simp
    (first | (go_at_call 114; ((with_reducible refine (load_yes F.m F.gx F.gb F.Af F.nf F.cf a b c d e fs X1 Y1 n0 _ s.ch hGV.chip hs hn0 D n T P S E 1 S1 bs h8 hl hZ hlk rfl).mono ?_); rintro e' w5 ⟨⟨A5, c5, rfl, ho5⟩, hC5, hT5⟩; have hG5 := hGV.chip_ hC5 hT5; have B5 := (hT5.mono (fun g h => flB_chip h)).blk BD hgn; have u0 := B5.cell_ 0; have u1 := B5.cell_ 1; simp at u0 u1; have QN := And.intro hG5.c0 (And.intro u0 u1); have T5 := (tch_bel bD).trans (hT5.mono (fun g h => flB_chip h)); have ho6 := own_base ho5 bD.size; have QNA : ∀ cs, (w5.alloc (.cells cs 109)).cell? ⟨F.fm, 0, none⟩ = some (.pointer (some ⟨F.m, 0, none⟩)) ∧ (w5.alloc (.cells cs 109)).cell? ⟨g0, 0, none⟩ = some (.int .i64 X1) ∧ (w5.alloc (.cells cs 109)).cell? ⟨g0, 1, none⟩ = some (.int .i64 Y1) := fun cs => (by have U := B5.below ((Below.refl w5.heap.size w5).alloc (Nat.le_refl _) (.cells cs 109)) B5.lt; have u0 := U.cell_ 0; have u1 := U.cell_ 1; simp at u0 u1; exact ⟨(hG5.below ((Below.refl w5.heap.size w5).alloc (Nat.le_refl _) (.cells cs 109))).c0, u0, u1⟩))) | (go_at_call 114; ((with_reducible refine (load_yes F.m F.gx F.gb F.Af F.nf F.cf a b c d e fs X1 Y1 n0 _ s.ch hGA.chip hs hn0 D n T P S E 1 S1 bs h8 hl hZ hlk rfl).mono ?_); rintro e' w5 ⟨⟨A5, c5, rfl, ho5⟩, hC5, hT5⟩; have hG5 := hGA.chip_ hC5 hT5; have B5 := (hT5.mono (fun g h => flB_chip h)).blk BA hgn; have u0 := B5.cell_ 0; have u1 := B5.cell_ 1; simp at u0 u1; have QN := And.intro hG5.c0 (And.intro u0 u1); have T5 := (tch_bel bA).trans (hT5.mono (fun g h => flB_chip h)); have ho6 := own_base ho5 bA.size; have BN5 := (hT5.mono (fun g h => flB_chip h)).blk GN hnV; have m0 := BN5.cell_ 0; have m1 := BN5.cell_ 1; have m2 := BN5.cell_ 2; have m3 := BN5.cell_ 3; simp at m0 m1 m2 m3; have f0 := BN5.free 0; have f1 := BN5.free 1; have f2 := BN5.free 2; have f3 := BN5.free 3; have TS : Tch (fun g => g = V.heap.size) w5 ((((w5.setCell ⟨V.heap.size, 0, none⟩ (.int .i64 (T : Int))).setCell ⟨V.heap.size, 1, none⟩ (.int .i64 (P : Int))).setCell ⟨V.heap.size, 2, none⟩ (.int .i64 (S : Int))).setCell ⟨V.heap.size, 3, none⟩ (.int .i64 (E : Int))) := (((Tch.setm w5 V.heap.size 0 _).trans (Tch.setm _ V.heap.size 1 _)).trans (Tch.setm _ V.heap.size 2 _)).trans (Tch.setm _ V.heap.size 3 _); have GS := hG5.far TS (fun g hu e => by have := hF.lt g hu; omega); have BS := TS.blk B5 (by omega); have v0 := BS.cell_ 0; have v1 := BS.cell_ 1; simp at v0 v1; have QNA := And.intro GS.c0 (And.intro v0 v1))))
    go_wp2_with fail
    refine hK.out _ _ ?_ (fun hNew => ?_)
    · (first | with_reducible exact QNA _ | exact QNA | with_reducible exact QD | with_reducible exact QA | with_reducible exact QN | assumption)
    clear hK K hHeld
    have hHeld := hNew
    clear hNew
    try simp only [Act.put, pz1, pz2, pz3]
    refine tk 6 ?_; try simp only [Act.put, pz1, pz2, pz3]
    refine tk 7 ?_; try simp only [Act.put, pz1, pz2, pz3]
    refine tk 8 ?_; try simp only [Act.put, pz1, pz2, pz3]
    refine tk 9 ?_; try simp only [Act.put, pz1, pz2, pz3]
    refine tk 11 ?_; try simp only [Act.put, pz1, pz2, pz3]
    refine wpAnyH_ready (rs := [12]) (by kernel_rfl) (by simp) ?_
    refine AllReadyH.cons (o := ⟨none, .store 109 (.tmp 9) (.tmp 46), 0, "flash.go:116", #[⟨10, .data⟩, ⟨8, .data⟩, ⟨11, .chain⟩, ⟨0, .phase⟩, ⟨1, .phase⟩, ⟨2, .phase⟩, ⟨3, .phase⟩, ⟨4, .phase⟩, ⟨5, .phase⟩, ⟨6, .phase⟩, ⟨7, .phase⟩, ⟨8, .phase⟩, { on := 9, ground := Ground.textOnly Departure.lateStores }, ⟨10, .phase⟩, ⟨11, .phase⟩], none⟩) rfl (fun K hK => ?_) AllReadyH.nil
    go_simp
    skip
    refine hK.out _ _ ?_ (fun hNew => ?_)
    · (first | with_reducible exact QNA _ | exact QNA | with_reducible exact QD | with_reducible exact QA | with_reducible exact QN | assumption)
    clear hK K hHeld
    have hHeld := hNew
    clear hNew
    try simp only [Act.put, pz1, pz2, pz3]
    refine tk 13 ?_; try simp only [Act.put, pz1, pz2, pz3]
    refine wpAnyH_done (by kernel_rfl) ?_ _
    refine NoPanic.normal ?_
    go_wp2_with fail
    go_ret2
    first
      | exact ⟨⟨A5, c5, rfl, own_below ho6 ((Below.refl w5.heap.size w5).alloc (Nat.le_refl _) _)⟩, hG5.below ((Below.refl w5.heap.size w5).alloc (Nat.le_refl _) _), T5.trans (tch_bel ((Below.refl w5.heap.size w5).alloc (Nat.le_refl _) _))⟩
      | exact ⟨⟨A5, c5, rfl, own_base (own_tch ho5 (by omega) TS) bA.size⟩, GS, (T5.mono (S' := fun g => FlB F g ∨ g = V.heap.size) (fun g h => Or.inl h) |>.trans (TS.mono (fun g h => Or.inr h))).monoL (fun g hg h => by
          rcases h with h | h
          · exact h
          · omega)⟩
end Go.Proofs.YtkpcohfdcilfcaaGreat
namespace Go.Proofs.YtkpcohfdcilfcaaGreat
open Go.ChangeShapes Go.WideShapes Go.ChangeAt Go.RowKit
attribute [local go_sem ↓] Go.wp_at_zero Go.wp_at_succ
theorem read_kept (F : FlK) (a b c d e : Int) (fs : List Flt) (L N : Nat) (s : FlS) (k : Nat) (x : Wt) (n0 : Int) (w : World) (hF : FlW w F a b c d e fs L N s) (hon : s.ch.on = true) (hc : s.ch.cuts = s.cuts) (hs : Fine s.ch n0) (hn0 : n0 ≤ 900000000) (hx : s.wt[k]? = some x) (hk1 : (x.kind == 1) = false) (hH : hasF s k = true) (hB : hasB s.kA (k : Int) = true) (X Y : Int) (hX : s.kA.getD k (-1) / b = X) (hY : s.kA.getD k (-1) % b = Y) (D : List Nat) (n T P S E : Nat) (S1 : ChS) (bs : List Nat) (h8 : Bytes8 bs) (hl : bs.length ≤ 1000000) (hZ : Hid (s.ch.readZ a b X Y = 0 ∧ s.ch.readB a b c X Y = bs ∧ s.ch.readS a b X Y = S1)) (hlk : Hid (Lk bs D n T P S E 1)) :
    Calls Tryz.prog 34 #[.pointer (some ⟨F.fm, 0, none⟩), .int .i64 (k : Int)] w fun e' w' => (∃ A' c', e' = .returned (.tuple #[.slice A' n c', .int .i64 0]) ∧ w'.ownsRow w.heap.size 5 1 (.slice A' n c') n (D.map byteV)) ∧ FlW w' F a b c d e fs L N { s with ch := S1 } ∧ Tch (FlB F) w w' := by
  have hk : k < L := by have := (List.getElem?_eq_some_iff.1 hx).1; have := hF.lwt; omega
  have HT : Hid (mayP L (k : Int) = true) := Lib.hid (by unfold mayP; simp; omega)
  have HH := Lib.hid hH
  have HB := Lib.hid hB
  have HX := Lib.hid hX
  have HY := Lib.hid hY
  clear hB hX hY hH
  go_enter Tryz.func34, Tryz.ntmps34
  go_wp2_with (first | (go_at_call 46; ((with_reducible refine (off_no F a b c d e fs L N s _ hF hon hc).mono ?_); rintro e' w1 ⟨rfl, b1⟩; have hG := hF.below b1)) | (go_at_call 47; ((with_reducible refine (may_f F a b c d e fs L N s _ _ hG _ HT.out).mono ?_); rintro e' w2 ⟨rfl, rfl⟩; skip)) | (go_at_call 70; ((with_reducible refine (has_f F a b c d e fs L N s _ _ hG hk _ HH.out).mono ?_); rintro e' w3 ⟨rfl, b3⟩; have hG3 := hG.below b3)) | (go_at_call 72; ((with_reducible refine (current_kept F a b c d e fs L N s k x n0 _ hG3 hs hn0 hx hk1 HB.out X Y HX.out HY.out D n T P S E S1 bs h8 hl hZ hlk).mono ?_); rintro e' w5 ⟨⟨A5, c5, rfl, ho5⟩, hG5, T5⟩; have B3 := btr b1 b1.size b3; have ho6 := own_base ho5 B3.size)))
  go_ret2
  exact ⟨⟨A5, c5, rfl, ho6⟩, hG5, (tch_bel B3).trans T5⟩
end Go.Proofs.YtkpcohfdcilfcaaGreat
namespace Go.Proofs.YtkpcohfdcilfcaaGreat
open Go.ChangeShapes Go.WideShapes Go.ChangeAt Go.RowKit
attribute [local go_sem ↓] Go.wp_at_zero Go.wp_at_succ
theorem alike_f (K1 P1 S1 E1 K2 P2 S2 E2 : Int) (w : World) (T : Bool) (hT : (K1 == K2 && (P1 == P2 && E1 == E2)) = T) :
    Calls Tryz.prog 140 #[.agg #[.int .i64 K1, .int .i64 P1, .int .i64 S1, .int .i64 E1], .agg #[.int .i64 K2, .int .i64 P2, .int .i64 S2, .int .i64 E2]] w fun e' w' => e' = .returned (.bool T) ∧ Below w.heap.size w w' := by
  have hb : Below w.heap.size w ((w.alloc (.cells #[.int .i64 K1, .int .i64 P1, .int .i64 S1, .int .i64 E1] 109)).alloc (.cells #[.int .i64 K2, .int .i64 P2, .int .i64 S2, .int .i64 E2] 109)) := ((Below.refl _ _).alloc (Nat.le_refl _) _).alloc (by show _ ≤ (w.heap.push _).size; simp) _
  obtain ⟨u1, h1⟩ : ∃ u, (K1 == K2) = u := ⟨_, rfl⟩
  obtain ⟨u2, h2⟩ : ∃ u, (P1 == P2) = u := ⟨_, rfl⟩
  obtain ⟨u3, h3⟩ : ∃ u, (E1 == E2) = u := ⟨_, rfl⟩
  rw [h1, h2, h3] at hT
  subst hT
  cases u1
  · skip
    go_enter Tryz.func140, Tryz.ntmps140
    go_wp2_with fail
    go_ret
    exact ⟨by simp, hb⟩
  · cases u2
    · skip
      go_enter Tryz.func140, Tryz.ntmps140
      go_wp2_with fail
      go_ret
      exact ⟨by simp, hb⟩
    · skip
      go_enter Tryz.func140, Tryz.ntmps140
      go_wp2_with fail
      go_ret
      exact ⟨by simp, hb⟩
end Go.Proofs.YtkpcohfdcilfcaaGreat
namespace Go.Proofs.YtkpcohfdcilfcaaGreat
open Go.ChangeShapes Go.WideShapes Go.ChangeAt Go.RowKit
attribute [local go_sem ↓] Go.wp_at_zero Go.wp_at_succ
end Go.Proofs.YtkpcohfdcilfcaaGreat
namespace Go.Proofs.YtkpcohfdcilfcaaGreat
open Go.ChangeShapes Go.WideShapes Go.ChangeAt Go.RowKit
theorem good_new (NX NB : Nat) : Good (ChS.new NX NB) 20 := by
  have hz : ∀ i, (List.replicate (3 * NB) (0 : Int)).getD i 0 = 0 := by
    intro i
    rw [List.getD_eq_getElem?_getD, List.getElem?_replicate]
    split <;> rfl
  exact ⟨⟨⟨by simp [ChS.new], by simp [ChS.new], by simp [ChS.new], by simp [ChS.new], fun i => by show 0 ≤ (List.replicate (3 * NB) (0 : Int)).getD i 0; rw [hz]; omega, fun i => by show (List.replicate (3 * NB) (0 : Int)).getD i 0 ≤ 20; rw [hz]; omega⟩, by simp [ChS.new], by simp [ChS.new]⟩, ⟨fun h => by simp [ChS.new] at h, fun h => by simp [ChS.new] at h⟩⟩
structure Liv (s : ChS) : Prop where
  on : s.on = true
  ar : s.armed = false
  b8 : Bytes8 s.X
theorem Liv.cut {s : ChS} (h : Liv s) : s.cutB = false := by unfold ChS.cutB; rw [h.ar]; rfl
theorem Liv.tick {s : ChS} (h : Liv s) : Liv s.tick := by
  unfold ChS.tick
  rw [h.cut]
  exact ⟨h.on, h.ar, h.b8⟩
theorem Liv.new (NX NB : Nat) : Liv (ChS.new NX NB) := ⟨rfl, rfl, fun x hx => by
  have := List.eq_of_mem_replicate hx
  omega⟩
theorem putX_8 {X vs : List Nat} {F : Nat} (h : Bytes8 X) (hv : Bytes8 vs) : Bytes8 (putX X F vs) := by
  intro x hx
  unfold putX at hx
  rcases List.mem_append.1 hx with hx | hx
  · rcases List.mem_append.1 hx with hx | hx
    · exact h x (List.mem_of_mem_take hx)
    · exact hv x hx
  · exact h x (List.mem_of_mem_drop hx)
theorem Liv.prog {s : ChS} (h : Liv s) (a b c : Int) (fs : List Flt) (x y : Int) {bs : List Nat} (hb : Bytes8 bs) : Liv (s.progS a b c fs x y bs) := by
  unfold ChS.progS
  split
  · split
    · rw [h.cut]
      have ht := h.tick
      exact ⟨ht.on, ht.ar, putX_8 h.b8 hb⟩
    · exact h.tick
  · exact h
theorem Liv.read {s : ChS} (h : Liv s) (a b x y : Int) : Liv (s.readS a b x y) := by
  unfold ChS.readS
  split
  · exact h.tick
  · exact h
def pg (X : List Nat) (RW i : Nat) : List Nat := (X.drop (i * RW)).take RW
def visF (NB RW : Nat) (fs : List Flt) (X : List Nat) : Nat → Nat → List Vis
  | 0, _ => []
  | r + 1, i => (if badB fs ((i / NB : Nat) : Int) = true then [] else [(i / NB, i % NB, pg X RW i)]) ++ visF NB RW fs X r (i + 1)
theorem live_read {a b c : Int} {NA NB RW i : Nat} {s : ChS} (h : Liv s) (hA : (NA : Int) = a) (hB : (NB : Int) = b) (hR : (RW : Int) = c + 16) (h0 : 0 < NB) (hi : i < NA * NB) : s.readZ a b ((i / NB : Nat) : Int) ((i % NB : Nat) : Int) = 0 ∧ s.readB a b c ((i / NB : Nat) : Int) ((i % NB : Nat) : Int) = pg s.X RW i := by
  have ht := there_in hA hB h0 hi
  obtain ⟨h1, h2, h3⟩ := divmod h0 hi
  have e1 : (((i / NB : Nat) : Int) * b + ((i % NB : Nat) : Int)).toNat = i := by rw [← hB, ← Int.natCast_mul]; omega
  have e2 : (c + 16).toNat = RW := by omega
  unfold ChS.readZ ChS.readB
  rw [h.on, ht, h.cut]
  refine ⟨by simp, ?_⟩
  simp only [Bool.not_false, Bool.and_true, Bool.and_self, if_true, reduceIte]
  unfold ChS.pageOf pg
  rw [e1, e2]
theorem walkF_liv {a b c : Int} {NA NB RW : Nat} {fs : List Flt} (hA : (NA : Int) = a) (hB : (NB : Int) = b) (hR : (RW : Int) = c + 16) (h0 : 0 < NB) : ∀ (r i : Nat) (s : ChS) (acc : List Vis), i + r ≤ NA * NB → Liv s → ∃ S1, walkF a b c NB fs r i s acc = (0, acc ++ visF NB RW fs s.X r i, S1) ∧ S1.X = s.X ∧ Liv S1
  | 0, i, s, acc, _, h => ⟨s, by simp [walkF, visF], rfl, h⟩
  | r + 1, i, s, acc, hi, h => by
    cases hb : badB fs ((i / NB : Nat) : Int) with
    | true =>
      rw [walkF_bad hb]
      obtain ⟨S1, h1, h2, h3⟩ := walkF_liv hA hB hR h0 r (i + 1) s acc (by omega) h
      refine ⟨S1, ?_, h2, h3⟩
      rw [h1, visF, if_pos hb, List.nil_append]
    | false =>
      obtain ⟨z1, z2⟩ := live_read (c := c) h hA hB hR h0 (show i < NA * NB by omega)
      rw [walkF_ok hb z1 rfl z2]
      obtain ⟨S1, h1, h2, h3⟩ := walkF_liv hA hB hR h0 r (i + 1) (s.readS a b ((i / NB : Nat) : Int) ((i % NB : Nat) : Int)) (acc ++ [(i / NB, i % NB, pg s.X RW i)]) (by omega) (h.read a b _ _)
      rw [readS_X] at h1 h2
      refine ⟨S1, ?_, h2, h3⟩
      rw [h1, visF, if_neg (by rw [hb]; simp), List.append_assoc]
theorem badB_nil (B : Int) : badB [] B = false := rfl
theorem visF_nil {NB RW : Nat} {X : List Nat} {r i : Nat} : visF NB RW [] X (r + 1) i = (i / NB, i % NB, pg X RW i) :: visF NB RW [] X r (i + 1) := by
  rw [visF, if_neg (by rw [badB_nil]; simp)]
  rfl
theorem visF_add {NB RW : Nat} {X : List Nat} : ∀ (r1 r2 i : Nat), visF NB RW [] X (r1 + r2) i = visF NB RW [] X r1 i ++ visF NB RW [] X r2 (i + r1)
  | 0, r2, i => by simp [visF]
  | r1 + 1, r2, i => by
    rw [show r1 + 1 + r2 = (r1 + r2) + 1 by omega, visF_nil, visF_nil, visF_add r1 r2 (i + 1), show i + 1 + r1 = i + (r1 + 1) by omega]
    rfl
theorem fds_cons (v : Vis) (l : List Vis) : fdsOf (v :: l) = fdOf v ++ fdsOf l := rfl
theorem fds_app (l l' : List Vis) : fdsOf (l ++ l') = fdsOf l ++ fdsOf l' := by simp [fdsOf]
theorem cnt_cons (p : Nat → Bool) (v : Vis) (l : List Vis) : cnt p (v :: l) = (if p (readSt v.2.2) = true then 1 else 0) + cnt p l := by
  unfold cnt
  rw [List.filter_cons]
  split <;> simp <;> omega
theorem vis_blank {NB RW : Nat} {X : List Nat} : ∀ (r i : Nat), (∀ t, i ≤ t → t < i + r → readSt (pg X RW t) = 0) → fdsOf (visF NB RW [] X r i) = [] ∧ cnt (fun s => s == 0) (visF NB RW [] X r i) = r ∧ cnt (fun s => s == 1) (visF NB RW [] X r i) = 0 ∧ cnt (fun s => !(s == 0 || s == 1)) (visF NB RW [] X r i) = 0
  | 0, i, _ => ⟨rfl, rfl, rfl, rfl⟩
  | r + 1, i, h => by
    obtain ⟨h1, h2, h3, h4⟩ := vis_blank (NB := NB) r (i + 1) (fun t ht1 ht2 => h t (by omega) (by omega))
    have hz := h i (Nat.le_refl _) (by omega)
    rw [visF_nil, fds_cons, cnt_cons, cnt_cons, cnt_cons, h1, h2, h3, h4]
    dsimp only
    rw [hz]
    refine ⟨?_, ?_, by simp, by simp⟩
    · unfold fdOf
      rw [if_neg (by dsimp only; rw [hz]; omega)]
      rfl
    · simp
      omega
theorem pg_get {X : List Nat} {RW i q : Nat} (hq : q < RW) : (pg X RW i)[q]? = X[i * RW + q]? := by
  unfold pg
  rw [List.getElem?_take_of_lt hq, List.getElem?_drop]
theorem pg_ext {X Y : List Nat} {RW i : Nat} (h : ∀ q, q < RW → X[i * RW + q]? = Y[i * RW + q]?) : pg X RW i = pg Y RW i := by
  apply List.ext_getElem?
  intro q
  by_cases hq : q < RW
  · rw [pg_get hq, pg_get hq]
    exact h q hq
  · rw [List.getElem?_eq_none (by unfold pg; rw [List.length_take]; omega), List.getElem?_eq_none (by unfold pg; rw [List.length_take]; omega)]
theorem pg_far {X vs : List Nat} {RW i F : Nat} (h : F + vs.length ≤ X.length) (hf : i * RW + RW ≤ F ∨ F + vs.length ≤ i * RW) : pg (putX X F vs) RW i = pg X RW i :=
  pg_ext fun q hq => by
    rw [putX_get h]
    rcases hf with hf | hf
    · rw [if_pos (by omega)]
    · rw [if_neg (by omega), if_neg (by omega)]
theorem pg_at {X vs : List Nat} {RW i : Nat} (h : i * RW + vs.length ≤ X.length) (hl : vs.length = RW) : pg (putX X (i * RW) vs) RW i = vs := by
  apply List.ext_getElem?
  intro q
  by_cases hq : q < RW
  · rw [pg_get hq, putX_get h, if_neg (by omega), if_pos (by omega)]
    congr 1
    omega
  · rw [List.getElem?_eq_none (by unfold pg; rw [List.length_take]; omega), List.getElem?_eq_none (by omega)]
theorem pg_rep {n RW i f : Nat} (h : i * RW + RW ≤ n) : pg (List.replicate n f) RW i = List.replicate RW f := by
  unfold pg
  rw [List.drop_replicate, List.take_replicate, Nat.min_eq_left (by omega)]
theorem st_blank {RW : Nat} (h1 : 40 ≤ RW) (h2 : RW ≤ 80) : readSt (List.replicate RW 255) = 0 := by
  unfold readSt
  rw [List.length_replicate, if_pos ⟨h1, h2⟩, if_pos]
  unfold blankB
  rw [List.all_eq_true]
  intro x hx
  rw [List.eq_of_mem_replicate hx]
  rfl
def ChS.at_ (s : ChS) (n : Int) : ChS := { s with ops := n }
theorem tick_at {s : ChS} (h : s.cutB = false) : s.tick = s.at_ (s.ops + 1) := by
  unfold ChS.tick ChS.at_
  rw [h]
  rfl
theorem readS_at {s : ChS} (h : Liv s) (a b x y : Int) : ∃ n, s.readS a b x y = s.at_ n := by
  unfold ChS.readS
  split
  · exact ⟨_, tick_at h.cut⟩
  · exact ⟨s.ops, rfl⟩
theorem walkF_at {a b c : Int} {NB : Nat} {fs : List Flt} : ∀ (r i : Nat) (s : ChS) (acc : List Vis), Liv s → ∀ z acc' S1, walkF a b c NB fs r i s acc = (z, acc', S1) → ∃ n, S1 = s.at_ n
  | 0, i, s, acc, h, z, acc', S1, he => by
    unfold walkF at he
    cases he
    exact ⟨s.ops, rfl⟩
  | r + 1, i, s, acc, h, z, acc', S1, he => by
    cases hb : badB fs ((i / NB : Nat) : Int) with
    | true =>
      rw [walkF_bad hb] at he
      exact walkF_at r (i + 1) s acc h z acc' S1 he
    | false =>
      obtain ⟨n, hn⟩ := readS_at h a b ((i / NB : Nat) : Int) ((i % NB : Nat) : Int)
      by_cases hz : s.readZ a b ((i / NB : Nat) : Int) ((i % NB : Nat) : Int) = 0
      · rw [walkF_ok hb hz hn rfl] at he
        obtain ⟨m, hm⟩ := walkF_at r (i + 1) (s.at_ n) _ ⟨h.on, h.ar, h.b8⟩ z acc' S1 he
        exact ⟨m, hm⟩
      · rw [walkF_err hb rfl hz hn] at he
        cases he
        exact ⟨n, rfl⟩
theorem Liv.at_ {s : ChS} (h : Liv s) (n : Int) : Liv (s.at_ n) := ⟨h.on, h.ar, h.b8⟩
end Go.Proofs.YtkpcohfdcilfcaaGreat
namespace Go.Proofs.YtkpcohfdcilfcaaGreat
open Go.ChangeShapes Go.WideShapes Go.ChangeAt Go.RowKit
attribute [local go_sem ↓] Go.wp_at_zero Go.wp_at_succ
theorem FlW.freshPut {w w' : World} {F : FlK} {a b c d e : Int} {fs : List Flt} {L N : Nat} {s : FlS} (hF : FlW w F a b c d e fs L N s) {A W : List Int} (hM : MapW w' F.fr F.f1 F.f2 a b c d e L N A W) (hT : Touch F.f1 F.f2 w w') (ho : w'.os = w.os ∧ w'.tape = w.tape ∧ w'.output = w.output) : FlW w' F a b c d e fs L N { s with fA := A } ∧ Tch (FlB F) w w' := by
  have hT2 : Tch (fun g => g = F.f1 ∨ g = F.f2) w w' := ⟨hT.size, fun g hg h => hT.far g hg (fun e => h (Or.inl e)) (fun e => h (Or.inr e)), ho.1, ho.2.1, ho.2.2⟩
  exact ⟨hF.freshT hT2 hM, hT2.mono (fun g h => by rcases h with h | h <;> rw [h]; exact flB_f1; exact flB_f2)⟩
theorem putf_f (F : FlK) (a b c d e : Int) (fs : List Flt) (L N : Nat) (s : FlS) (p x y : Int) (w : World) (hF : FlW w F a b c d e fs L N s) (B : Bool) (hB : putB a b s.fA p x y = B) :
    Calls Tryz.prog 92 #[.pointer (some ⟨F.fr, 0, none⟩), .int .i64 p, .agg #[.int .i64 x, .int .i64 y]] w fun e' w' => e' = .returned (.bool B) ∧ FlW w' F a b c d e fs L N { s with fA := putL a b s.fA p x y } ∧ Tch (FlB F) w w' := by
  subst hB
  obtain ⟨W, hM⟩ := hF.fresh
  obtain ⟨l1, l2, -⟩ := hF.bL
  refine (put_anyM _ _ _ a b c d e L N s.fA W p x y w hM (Lib.hid hF.may) l1 l2 hF.hN).mono ?_
  rintro e' w' ⟨rfl, ⟨W', hM'⟩, hT⟩
  have h := hF.freshPut hM' hT hT.out
  exact ⟨rfl, h.1, h.2⟩
def FlK.newF (F : FlK) (m g1 g2 : Nat) : FlK := { F with fr := m, f1 := g1, f2 := g2 }
theorem flB_newF {F : FlK} {m g1 g2 g : Nat} (h : FlB (F.newF m g1 g2) g) : FlB F g ∨ g = m ∨ g = g1 ∨ g = g2 := by
  unfold FlB FlK.all FlK.newF at h
  unfold FlB FlK.all
  simp only [List.mem_cons, List.not_mem_nil, or_false] at h ⊢
  rcases h with h | h | h | h | h | h | h | h | h | h | h | h | h <;> simp [h]
theorem FlW.newFr {w wM : World} {F : FlK} {a b c d e : Int} {fs : List Flt} {L N : Nat} {s : FlS} (hF : FlW w F a b c d e fs L N s) {m g1 g2 : Nat} {A W : List Int} (hb : Below w.heap.size w wM) (hM : MapW wM m g1 g2 a b c d e L N A W) (q1 : w.heap.size ≤ m) (q2 : w.heap.size ≤ g1) (q3 : w.heap.size ≤ g2) : FlW (wM.setCell ⟨F.fm, 12, none⟩ (.pointer (some ⟨m, 0, none⟩))) (F.newF m g1 g2) a b c d e fs L N { s with fA := A } ∧ Tch (FlB F) w (wM.setCell ⟨F.fm, 12, none⟩ (.pointer (some ⟨m, 0, none⟩))) := by
  have hG := hF.below hb
  obtain ⟨V, hV⟩ : ∃ V : World, V = wM.setCell ⟨F.fm, 12, none⟩ (.pointer (some ⟨m, 0, none⟩)) := ⟨_, rfl⟩
  have hT : Tch (fun g => g = F.fm) wM V := by rw [hV]; exact Tch.setm wM F.fm 12 _
  have hB : Blk V F.fm 86 #[.pointer (some ⟨F.m, 0, none⟩), .int .i64 a, .int .i64 b, .int .i64 c, .int .i64 d, .int .i64 e, .int .i64 s.cuts, .bool s.degr, .int .i64 s.seq, .int .i64 s.epoch, .pointer (some ⟨F.km, 0, none⟩), .slice (some ⟨F.gt, 0, none⟩) L L, .pointer (some ⟨m, 0, none⟩), .int .i64 s.cx, .int .i64 s.cy, .bool s.sld, .slice (some ⟨F.gw, 0, none⟩) L L, .slice (some ⟨F.gs, 0, none⟩) L L] := by
    rw [hV]
    have h := hG.box.set_ 12 (.pointer (some ⟨m, 0, none⟩))
    simpa using h
  have hTT : Tch (FlB F) w V := (tch_bel hb).trans (hT.mono (fun g h => by rw [h]; exact flB_fm))
  rw [← hV]
  refine ⟨?_, hTT⟩
  clear hV
  have hz := hb.size
  obtain ⟨z1, z2, z3⟩ := hM.lt
  have kp : ∀ i, FlB F i → i ≠ F.fm → V.heap[i]? = wM.heap[i]? := fun i h hn => hT.far i (hG.blt h) hn
  have kq : ∀ i, w.heap.size ≤ i → i < wM.heap.size → V.heap[i]? = wM.heap[i]? := fun i h h2 => hT.far i h2 (fun e => by have := hF.blt (flB_fm (F := F)); omega)
  have kd : ∀ g ∈ F.dat, V.heap[g]? = wM.heap[g]? := fun g h => hT.far g (hG.lt g (Or.inr h)) (fun e => hF.dj g h (by rw [e]; exact flB_fm))
  have key : ∀ x, FlB F x → ∀ y, w.heap.size ≤ y → x ≠ y := fun x hx y hy e => by have := hF.blt hx; omega
  have ky : ∀ y, w.heap.size ≤ y → ∀ x, FlB F x → y ≠ x := fun y hy x hx e => by have := hF.blt hx; omega
  obtain ⟨W1, m1⟩ := hG.kept
  have n1 := hM.n1
  have n2 := hM.n2
  have n12 := hM.n12
  refine ⟨hB, hG.chipk hT.size (kp _ flB_m (hF.ne 0 1).symm) (kp _ flB_gx (hF.ne 0 2).symm) (kp _ flB_gb (hF.ne 0 3).symm) kd, ⟨W1, m1.keep (kp _ flB_km (hF.ne 0 4).symm) (kp _ flB_k1 (hF.ne 0 5).symm) (kp _ flB_k2 (hF.ne 0 6).symm)⟩, ⟨W, hM.keep (kq _ q1 z1) (kq _ q2 z2) (kq _ q3 z3)⟩, hG.tr.keepb (kp _ flB_gt (hF.ne 0 10).symm), hG.wt.keepb (kp _ flB_gw (hF.ne 0 11).symm), hG.st.keepb (kp _ flB_gs (hF.ne 0 12).symm), ?_, ?_, ?_, hG.fl, hG.ltr, hG.lwt, hG.lwa, hG.lst, hG.datk kd, hG.may, hG.hL, hG.hN⟩
  · have nd := hF.nd
    show List.Nodup [F.fm, F.m, F.gx, F.gb, F.km, F.k1, F.k2, m, g1, g2, F.gt, F.gw, F.gs]
    unfold FlK.all at nd
    simp only [List.nodup_cons, List.mem_cons, List.not_mem_nil, or_false, not_or, not_false_eq_true, and_true, List.nodup_nil] at nd ⊢
    obtain ⟨⟨pa0, pa1, pa2, pa3, pa4, pa5, pa6, pa7, pa8, pa9, pa10, pa11⟩, ⟨pb0, pb1, pb2, pb3, pb4, pb5, pb6, pb7, pb8, pb9, pb10⟩, ⟨pc0, pc1, pc2, pc3, pc4, pc5, pc6, pc7, pc8, pc9⟩, ⟨pd0, pd1, pd2, pd3, pd4, pd5, pd6, pd7, pd8⟩, ⟨pe0, pe1, pe2, pe3, pe4, pe5, pe6, pe7⟩, ⟨pf0, pf1, pf2, pf3, pf4, pf5, pf6⟩, ⟨pg0, pg1, pg2, pg3, pg4, pg5⟩, ⟨ph0, ph1, ph2, ph3, ph4⟩, ⟨i0, i1, i2, i3⟩, ⟨j0, j1, j2⟩, ⟨k0, k1⟩, l0⟩ := nd
    refine ⟨⟨?_, ?_, ?_, ?_, ?_, ?_, ?_, ?_, ?_, ?_, ?_, ?_⟩, ⟨?_, ?_, ?_, ?_, ?_, ?_, ?_, ?_, ?_, ?_, ?_⟩, ⟨?_, ?_, ?_, ?_, ?_, ?_, ?_, ?_, ?_, ?_⟩, ⟨?_, ?_, ?_, ?_, ?_, ?_, ?_, ?_, ?_⟩, ⟨?_, ?_, ?_, ?_, ?_, ?_, ?_, ?_⟩, ⟨?_, ?_, ?_, ?_, ?_, ?_, ?_⟩, ⟨?_, ?_, ?_, ?_, ?_, ?_⟩, ⟨?_, ?_, ?_, ?_, ?_⟩, ⟨?_, ?_, ?_, ?_⟩, ⟨?_, ?_, ?_⟩, ⟨?_, ?_⟩, ?_⟩
    all_goals first
      | assumption
      | exact key _ (by first | exact flB_fm | exact flB_m | exact flB_gx | exact flB_gb | exact flB_km | exact flB_k1 | exact flB_k2) _ (by assumption)
      | exact ky _ (by assumption) _ (by first | exact flB_gt | exact flB_gw | exact flB_gs)
  · intro g hg
    have hs := hT.size
    rcases hg with hg | hg
    · rcases flB_newF hg with h | h | h | h
      · have := hG.blt h; omega
      · omega
      · omega
      · omega
    · have := hG.lt g (Or.inr hg); omega
  · intro g hg hm
    have h1 := hF.lt g (Or.inr hg)
    rcases flB_newF hm with h | h | h | h
    · exact hF.dj g hg h
    · omega
    · omega
    · omega
end Go.Proofs.YtkpcohfdcilfcaaGreat
