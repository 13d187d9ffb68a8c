/- seek.May, common; the laws' own in, one, among. -/
import Derived.Test.YteokeghenjobaaaGreatDoorQk2
import Derived.Maps.OwnSet
import Derived.Maps.OwnOps
import Derived.Lib.SliceRun
import Derived.Deep.DeepCutAuto
import Derived.Test.YteokeghenjobaaaGreatDoorQk1
import Derived.Test.YteokeghenjobaaaGreatDoorRows
import Derived.SevenTiedAt
import Derived.LaidHandle
import Derived.Lib.LaidIn
import Derived.Lib.LaidU8T
import Derived.PinnedBridge
import Derived.ChangeMaps5
set_option linter.unusedSimpArgs false
set_option linter.unusedVariables false
set_option maxRecDepth 100000
set_option maxHeartbeats 16000000
namespace Go.Proofs.YteokeghenjobaaaGreatDoor
open Go.ChangeShapes Go.WideShapes Go.ChangeAt Go.RowKit
attribute [local go_sem ↓] Go.wp_at_zero Go.wp_at_succ
attribute [local go_sem] Oper.semAt_some
def mayQ (q : List UInt8) : Bool := (readL q).isSome
theorem mayq_any (q : List UInt8) (w : World) (hl : q.length ≤ 100000) (T : Bool) (hT : mayQ q = T) :
    Calls Tryz.prog 23 #[.string (bOf q)] w fun e' w' => e' = .returned (.bool T) ∧ Below w.heap.size w w' := by
  have HQL := Lib.hid hl
  have HT := Lib.hid hT
  clear hl hT
  go_enter Tryz.func23, Tryz.ntmps23
  go_wp2_with (go_at_call 35; ((with_reducible refine (read_any q _ _ rfl HQL.out).mono ?_); rintro e' w4 ⟨⟨v4, B4, rfl, hy, hn⟩, b4⟩; have HB4 : Hid (B4 = T) := Lib.hid (by rw [← HT.out]; unfold mayQ; cases hr : readL q with | none => exact hn hr | some ts => exact (hy ts hr).1); clear hy hn))
  go_ret
  exact ⟨by rw [← HB4.out]; rfl, b4⟩
theorem comN_next {a b : List ByteArray} {k : Nat} {x : ByteArray} (h : a[k]? = some x) : comN (a.take (k + 1)) b = comN (a.take k) b + (if hasB b x then 1 else 0) := by
  unfold comN
  rw [List.take_add_one, h, List.filter_append, List.length_append]
  cases hb : hasB b x <;> simp [hb]
theorem common_any (a b : List ByteArray) (A Bq : Option Addr) (c d : Nat) (w : World) (ha : Sl w w.heap.size A (a.map strV)) (hb : Sl w w.heap.size Bq (b.map strV)) (l1 : a.length ≤ 100000) (l2 : b.length ≤ 100000) :
    Calls Tryz.prog 49 #[.slice A a.length c, .slice Bq b.length d] w fun e' w' => e' = .returned (.int .i64 (comN a b : Int)) ∧ w' = w := by
  have hcon := fun x => contains_any Bq d b x w.heap.size w hb (by omega)
  obtain ⟨n, hn⟩ : ∃ n, a.length = n := ⟨_, rfl⟩
  obtain ⟨m, hm⟩ : ∃ n, b.length = n := ⟨_, rfl⟩
  rw [hm] at hcon
  rw [hn] at l1
  rw [hn, hm]
  have HN := Lib.hid hn
  have HCN := Lib.hid hcon
  have hz : (0 : Int) ≤ (n : Int) := by omega
  have H0 : Hid (comN (a.take 0) b = 0) := Lib.hid rfl
  clear hn hm hcon hb l2
  go_enter Tryz.func49, Tryz.ntmps49
  go_wp2_with fail
  go_loop [5, 10] (fun sc i => ∃ k c : Nat, k ≤ n ∧ i = .int .i64 k ∧ sc = .int .i64 c ∧ c ≤ k ∧ Hid (comN (a.take k) b = c)) (fun _ i => n - (intOf i).toNat)
  case atStart => exact ⟨0, 0, by omega, rfl, rfl, by omega, H0⟩
  case round =>
    obtain ⟨k, c, hk, rfl, rfl, hck, HK⟩ := hrel
    clear H0
    by_cases hlt : k < n
    · have hlx : k < a.length := by have := HN.out; omega
      obtain ⟨b1, o1, rfl, l1, q1⟩ := ha.at_ (by rw [List.length_map]; omega)
      obtain ⟨x, hx⟩ : ∃ x, a[k]? = some x := ⟨_, List.getElem?_eq_getElem hlx⟩
      have cx : w.cell? ⟨b1, o1 + k, none⟩ = some (.string x) := q1 k _ (by rw [List.getElem?_map, hx]; rfl)
      have i0 : (0 : Int) ≤ (k : Int) := by omega
      have i1 : (k : Int) < (n : Int) := by omega
      have HX := Lib.hid hx
      clear q1 hx hlx
      obtain ⟨B, hB⟩ : ∃ B, hasB b x = B := ⟨_, rfl⟩
      have HB := Lib.hid hB
      clear hB
      cases B
      · go_wp2_with (go_at_call 86; ((with_reducible refine (HCN.out x).mono ?_); rintro e' w' ⟨rfl, rfl⟩; rw [HB.out]))
        go_round
        case rel => exact ⟨k + 1, c, by omega, by go_num, by first | rfl | go_num, by omega, Lib.hid (by rw [comN_next HX.out, HB.out, HK.out]; rfl)⟩
        case measure => simp [intOf]; omega
      · go_wp2_with (go_at_call 86; ((with_reducible refine (HCN.out x).mono ?_); rintro e' w' ⟨rfl, rfl⟩; rw [HB.out]))
        go_round
        case rel => exact ⟨k + 1, c + 1, by omega, by go_num, by go_num, by omega, Lib.hid (by rw [comN_next HX.out, HB.out, HK.out]; rfl)⟩
        case measure => simp [intOf]; omega
    · have hjn : k = n := by omega
      subst hjn
      clear hlt
      go_wp2_with fail
      go_ret
      refine ⟨?_, by first | rfl | trivial⟩
      have := HK.out
      rw [List.take_of_length_le (by rw [HN.out]; exact Nat.le_refl _)] at this
      rw [this]
      rfl
def amgB (l : List ByteArray) (x : ByteArray) : Bool := l.any fun y => sameS y x
def inB (l : List It) (x : It) : Bool := l.any fun y => y.id == x.id && sameS y.nm x.nm
theorem inB_iff (l : List It) (x : It) : inB l x = true ↔ x ∈ l := by
  unfold inB
  rw [List.any_eq_true]
  constructor
  · rintro ⟨y, hy, h⟩
    rw [Bool.and_eq_true] at h
    have h1 : y.id = x.id := by simpa using h.1
    have h2 : y.nm = x.nm := by have := h.2; unfold sameS at this; rw [beq_iff_eq] at this; exact toList_inj_ this
    have : y = x := by cases y; cases x; simp only at h1 h2; rw [h1, h2]
    rwa [← this]
  · intro h
    exact ⟨x, h, by simp [sameS]⟩
theorem in_any (l : List It) (A : Option Addr) (cp : Nat) (x : It) (w : World) (hS : SlE 2 w w.heap.size A (l.map itC)) (hl : l.length ≤ 1000000) (T : Bool) (hT : inB l x = T) :
    Calls Tryz.prog 30 #[.slice A l.length cp, .agg #[.int .i64 x.id, .string x.nm]] w fun e' w' => e' = .returned (.bool T) ∧ Below w.heap.size w w' := by
  obtain ⟨n, hn⟩ : ∃ n, l.length = n := ⟨_, rfl⟩
  rw [hn] at hl ⊢
  have HT := Lib.hid hT
  have HN := Lib.hid hn
  have hz : (0 : Int) ≤ (n : Int) := by omega
  have H0 : Hid ((l.take 0).any (fun y => y.id == x.id && sameS y.nm x.nm) = false) := Lib.hid rfl
  have HB0 : Below w.heap.size w (w.alloc (.cells #[.int .i64 x.id, .string x.nm] 50)) := (Below.refl _ w).alloc (Nat.le_refl _) _
  have B1 := Blk.new_ w 50 #[.int .i64 x.id, .string x.nm]
  clear hT hn
  go_enter Tryz.func30, Tryz.ntmps30
  go_upto_region 1 with fail
  obtain ⟨w1, hw1⟩ : ∃ V, V = w.alloc (.cells #[.int .i64 x.id, .string x.nm] 50) := ⟨_, rfl⟩
  rw [← hw1] at HB0 B1 ⊢
  clear hw1
  go_wp2_with fail
  go_loopw [5] (fun i wr => ∃ k : Nat, k ≤ n ∧ i = .int .i64 k ∧ Hid ((l.take k).any (fun y => y.id == x.id && sameS y.nm x.nm) = false) ∧ Below w1.heap.size w1 wr) (fun i _ => n - (intOf i).toNat)
  case atStart => exact ⟨0, by omega, rfl, H0, Below.refl _ _⟩
  case round =>
    obtain ⟨k, hk, rfl, HK, HBr⟩ := hrel
    clear H0
    have HBw := btr HB0 HB0.size HBr
    have hw2 := B1.lt
    by_cases hlt : k < n
    · have hlx : k < l.length := by have := HN.out; omega
      obtain ⟨b1, o1, rfl, l1, q1⟩ := hS.at_ (by rw [List.length_map]; omega)
      obtain ⟨y, hx⟩ : ∃ x, l[k]? = some x := ⟨_, List.getElem?_eq_getElem hlx⟩
      have he : (l.map itC)[k]? = some (itC y) := by rw [List.getElem?_map, hx]; rfl
      have HD := drew_below HBw
      have HE := drew_below HBr
      have y0 : wr.drew.cell? ⟨b1, o1 + k * 2 + 0, none⟩ = some (.int .i64 y.id) := (HD.cell (p := ⟨b1, _, none⟩) l1).trans (q1 k _ he 0 _ rfl)
      have y1 : wr.drew.cell? ⟨b1, o1 + k * 2 + 1, none⟩ = some (.string y.nm) := (HD.cell (p := ⟨b1, _, none⟩) l1).trans (q1 k _ he 1 _ rfl)
      have x0 : wr.drew.cell? ⟨w.heap.size, 0, none⟩ = some (.int .i64 x.id) := (HE.cell (p := ⟨_, _, none⟩) hw2).trans (by have := B1.cell_ 0; simpa using this)
      have x1 : wr.drew.cell? ⟨w.heap.size, 1, none⟩ = some (.string x.nm) := (HE.cell (p := ⟨_, _, none⟩) hw2).trans (by have := B1.cell_ 1; simpa using this)
      simp only [Nat.add_zero] at y0
      have i0 : (0 : Int) ≤ (k : Int) := by omega
      have i1 : (k : Int) < (n : Int) := by omega
      have HX := Lib.hid hx
      have QD : (Below w.heap.size w wr.drew ∧ wr.drew.cell? ⟨b1, o1 + k * 2, none⟩ = some (.int .i64 y.id) ∧ wr.drew.cell? ⟨b1, o1 + k * 2 + 1, none⟩ = some (.string y.nm) ∧ wr.drew.cell? ⟨w.heap.size, 0, none⟩ = some (.int .i64 x.id) ∧ wr.drew.cell? ⟨w.heap.size, 1, none⟩ = some (.string x.nm)) := ⟨HD, y0, y1, x0, x1⟩
      clear q1 hx hlx he HD
      rcases (by cases hq : (y.id == x.id) <;> simp : (y.id == x.id) = true ∨ (y.id == x.id) = false) with hp | hp
      · rcases (by cases hq : (y.nm.toList == x.nm.toList) <;> simp : (y.nm.toList == x.nm.toList) = true ∨ (y.nm.toList == x.nm.toList) = false) with hr | hr
        · have hTt : T = true := by rw [← HT.out]; exact List.any_eq_true.2 ⟨y, List.mem_of_getElem? HX.out, by rw [hp, sameS, hr]; rfl⟩
          have HTT := Lib.hid hTt
          clear hTt
          go_upto_region 4 with fail
          refine wp_region_noPanic ?_
          refine wp_region_held_drew (S := (fun w_ => Below w.heap.size w w_ ∧ w_.cell? ⟨b1, o1 + k * 2, none⟩ = some (.int .i64 y.id) ∧ w_.cell? ⟨b1, o1 + k * 2 + 1, none⟩ = some (.string y.nm) ∧ w_.cell? ⟨w.heap.size, 0, none⟩ = some (.int .i64 x.id) ∧ w_.cell? ⟨w.heap.size, 1, none⟩ = some (.string x.nm))) (by kernel_rfl) ?_ (fun hHeld => ?_)
          · (first | with_reducible exact QD | assumption)
          refine tk 0 ⟨some 12, .move (.tmp 0), 29, "law.go:80", #[], none⟩ ?_; try simp only [Act.put, pz1, pz2, pz3]
          refine tk 1 ⟨some 13, .move (.tmp 5), 3, "law.go:80", #[], none⟩ ?_; try simp only [Act.put, pz1, pz2, pz3]
          refine tk 2 ⟨some 14, .indexAddr 29 (.tmp 12) (.tmp 13), 0, "law.go:80", #[⟨0, .data⟩, ⟨1, .data⟩], none⟩ ?_; try simp only [Act.put, pz1, pz2, pz3]
          refine tk 3 ⟨some 15, .load 50 (.tmp 14), 50, "law.go:80", #[⟨2, .data⟩], none⟩ ?_; try simp only [Act.put, pz1, pz2, pz3]
          refine tk 4 ⟨some 16, .load 50 (.tmp 3), 50, "law.go:80", #[], none⟩ ?_; try simp only [Act.put, pz1, pz2, pz3]
          refine tk 5 ⟨some 17, .binOp .eql 50 (.tmp 15) (.tmp 16) 50, 4, "law.go:80", #[⟨3, .data⟩, ⟨4, .data⟩], none⟩ ?_; try simp only [Act.put, pz1, pz2, pz3]
          refine wpAnyH_done (by kernel_rfl) ?_ _
          refine NoPanic.normal ?_
          go_wp2_with fail
          go_ret
          exact ⟨by rw [HTT.out]; rfl, hHeld.1⟩
        · have HP : Hid ((y.id == x.id && sameS y.nm x.nm) = false) := Lib.hid (by unfold sameS; rw [hr, Bool.and_false])
          go_upto_region 4 with fail
          refine wp_region_noPanic ?_
          refine wp_region_held_drew (S := (fun w_ => Below w.heap.size w w_ ∧ w_.cell? ⟨b1, o1 + k * 2, none⟩ = some (.int .i64 y.id) ∧ w_.cell? ⟨b1, o1 + k * 2 + 1, none⟩ = some (.string y.nm) ∧ w_.cell? ⟨w.heap.size, 0, none⟩ = some (.int .i64 x.id) ∧ w_.cell? ⟨w.heap.size, 1, none⟩ = some (.string x.nm))) (by kernel_rfl) ?_ (fun hHeld => ?_)
          · (first | with_reducible exact QD | assumption)
          refine tk 0 ⟨some 12, .move (.tmp 0), 29, "law.go:80", #[], none⟩ ?_; try simp only [Act.put, pz1, pz2, pz3]
          refine tk 1 ⟨some 13, .move (.tmp 5), 3, "law.go:80", #[], none⟩ ?_; try simp only [Act.put, pz1, pz2, pz3]
          refine tk 2 ⟨some 14, .indexAddr 29 (.tmp 12) (.tmp 13), 0, "law.go:80", #[⟨0, .data⟩, ⟨1, .data⟩], none⟩ ?_; try simp only [Act.put, pz1, pz2, pz3]
          refine tk 3 ⟨some 15, .load 50 (.tmp 14), 50, "law.go:80", #[⟨2, .data⟩], none⟩ ?_; try simp only [Act.put, pz1, pz2, pz3]
          refine tk 4 ⟨some 16, .load 50 (.tmp 3), 50, "law.go:80", #[], none⟩ ?_; try simp only [Act.put, pz1, pz2, pz3]
          refine tk 5 ⟨some 17, .binOp .eql 50 (.tmp 15) (.tmp 16) 50, 4, "law.go:80", #[⟨3, .data⟩, ⟨4, .data⟩], none⟩ ?_; try simp only [Act.put, pz1, pz2, pz3]
          refine wpAnyH_done (by kernel_rfl) ?_ _
          refine NoPanic.normal ?_
          go_wp2_with fail
          go_roundw
          case rel => exact ⟨k + 1, by omega, by go_num, Lib.hid (any_next HK.out HX.out HP.out), (by first | exact HBr | exact HE)⟩
          case measure => simp [intOf]; omega
      · have HP : Hid ((y.id == x.id && sameS y.nm x.nm) = false) := Lib.hid (by rw [hp, Bool.false_and])
        go_upto_region 4 with fail
        refine wp_region_noPanic ?_
        refine wp_region_held_drew (S := (fun w_ => Below w.heap.size w w_ ∧ w_.cell? ⟨b1, o1 + k * 2, none⟩ = some (.int .i64 y.id) ∧ w_.cell? ⟨b1, o1 + k * 2 + 1, none⟩ = some (.string y.nm) ∧ w_.cell? ⟨w.heap.size, 0, none⟩ = some (.int .i64 x.id) ∧ w_.cell? ⟨w.heap.size, 1, none⟩ = some (.string x.nm))) (by kernel_rfl) ?_ (fun hHeld => ?_)
        · (first | with_reducible exact QD | assumption)
        refine tk 0 ⟨some 12, .move (.tmp 0), 29, "law.go:80", #[], none⟩ ?_; try simp only [Act.put, pz1, pz2, pz3]
        refine tk 1 ⟨some 13, .move (.tmp 5), 3, "law.go:80", #[], none⟩ ?_; try simp only [Act.put, pz1, pz2, pz3]
        refine tk 2 ⟨some 14, .indexAddr 29 (.tmp 12) (.tmp 13), 0, "law.go:80", #[⟨0, .data⟩, ⟨1, .data⟩], none⟩ ?_; try simp only [Act.put, pz1, pz2, pz3]
        refine tk 3 ⟨some 15, .load 50 (.tmp 14), 50, "law.go:80", #[⟨2, .data⟩], none⟩ ?_; try simp only [Act.put, pz1, pz2, pz3]
        refine tk 4 ⟨some 16, .load 50 (.tmp 3), 50, "law.go:80", #[], none⟩ ?_; try simp only [Act.put, pz1, pz2, pz3]
        refine tk 5 ⟨some 17, .binOp .eql 50 (.tmp 15) (.tmp 16) 50, 4, "law.go:80", #[⟨3, .data⟩, ⟨4, .data⟩], none⟩ ?_; try simp only [Act.put, pz1, pz2, pz3]
        refine wpAnyH_done (by kernel_rfl) ?_ _
        refine NoPanic.normal ?_
        go_wp2_with fail
        go_roundw
        case rel => exact ⟨k + 1, by omega, by go_num, Lib.hid (any_next HK.out HX.out HP.out), (by first | exact HBr | exact HE)⟩
        case measure => simp [intOf]; omega
    · have hjn : k = n := by omega
      subst hjn
      clear hlt
      go_wp2_with fail
      go_ret
      refine ⟨?_, HBw⟩
      have := HK.out
      rw [List.take_of_length_le (by rw [HN.out]; exact Nat.le_refl _)] at this
      rw [← HT.out]
      unfold inB
      rw [this]
      rfl
end Go.Proofs.YteokeghenjobaaaGreatDoor
namespace Go.Proofs.YteokeghenjobaaaGreatDoor
open Go.ChangeShapes Go.WideShapes Go.ChangeAt Go.RowKit
attribute [local go_sem ↓] Go.wp_at_zero Go.wp_at_succ
theorem sameItems_yes (L : List It) (A B : Option Addr) (n c d : Nat) (w : World) (hn : L.length = n) (n1 : n ≤ 1000000) (h1 : SlE 2 w w.heap.size A (L.map itC)) (h2 : SlE 2 w w.heap.size B (L.map itC)) : Calls Tryz.prog 18 #[.slice A n c, .slice B n d] w fun e' w' => e' = .returned (.bool true) ∧ Below w.heap.size w w' := by
  have HN := Lib.hid hn
  have H1 := Lib.hid h1
  have H2 := Lib.hid h2
  clear hn h1 h2
  go_enter Tryz.func18, Tryz.ntmps18
  go_wp2_with fail
  go_loopw [5] (fun s5 wr => ∃ k : Nat, k ≤ n ∧ s5 = .int .i64 (k : Int) ∧ Below w.heap.size w wr) (fun s5 _ => n - (intOf s5).toNat)
  case atStart => exact ⟨0, Nat.zero_le _, rfl, Below.refl _ _⟩
  case round =>
    obtain ⟨k, hk, rfl, hB⟩ := hrel
    by_cases hlt : k < n
    · have hlx : k < L.length := by have := HN.out; omega
      obtain ⟨b1, o1, rfl, l1, q1⟩ := (SlE.below H1.out hB).at_ (by rw [List.length_map]; omega)
      obtain ⟨b2, o2, rfl, l2, q2⟩ := (SlE.below H2.out hB).at_ (by rw [List.length_map]; omega)
      obtain ⟨x, hx⟩ : ∃ x, L[k]? = some x := ⟨_, List.getElem?_eq_getElem hlx⟩
      have he : (L.map itC)[k]? = some (itC x) := by rw [List.getElem?_map, hx]; rfl
      have x0 := q1 k _ he 0 _ rfl
      have x1 := q1 k _ he 1 _ rfl
      have y0 := q2 k _ he 0 _ rfl
      have y1 := q2 k _ he 1 _ rfl
      simp only [Nat.add_zero] at x0 y0
      have k0 : (0 : Int) ≤ (k : Int) := by omega
      have k1 : (k : Int) < (n : Int) := by omega
      clear hx he q1 q2 hlx
      go_upto_region 6 with fail
      refine wp_region_noPanic ?_
      refine wp_region_held_drew (S := (fun w_ => w_.cell? ⟨b1, o1 + k * 2, none⟩ = some (.int .i64 x.id) ∧ w_.cell? ⟨b1, o1 + k * 2 + 1, none⟩ = some (.string x.nm) ∧ w_.cell? ⟨b2, o2 + k * 2, none⟩ = some (.int .i64 x.id) ∧ w_.cell? ⟨b2, o2 + k * 2 + 1, none⟩ = some (.string x.nm))) (by kernel_rfl) ?_ (fun hHeld => ?_)
      · (first | exact ⟨x0, x1, y0, y1⟩ | assumption)
      refine tk 0 ⟨some 17, .move (.tmp 0), 29, "same.go:106", #[], none⟩ ?_; try simp only [Act.put, pz1, pz2, pz3]
      refine tk 1 ⟨some 18, .move (.tmp 5), 3, "same.go:106", #[], none⟩ ?_; try simp only [Act.put, pz1, pz2, pz3]
      refine tk 2 ⟨some 19, .indexAddr 29 (.tmp 17) (.tmp 18), 0, "same.go:106", #[⟨0, .data⟩, ⟨1, .data⟩], none⟩ ?_; try simp only [Act.put, pz1, pz2, pz3]
      refine tk 3 ⟨some 20, .load 50 (.tmp 19), 50, "same.go:106", #[⟨2, .data⟩], none⟩ ?_; try simp only [Act.put, pz1, pz2, pz3]
      refine tk 4 ⟨some 21, .move (.tmp 1), 29, "same.go:106", #[], none⟩ ?_; try simp only [Act.put, pz1, pz2, pz3]
      refine tk 5 ⟨some 22, .move (.tmp 5), 3, "same.go:106", #[], none⟩ ?_; try simp only [Act.put, pz1, pz2, pz3]
      refine tk 6 ⟨some 23, .indexAddr 29 (.tmp 21) (.tmp 22), 0, "same.go:106", #[⟨4, .data⟩, ⟨5, .data⟩], none⟩ ?_; try simp only [Act.put, pz1, pz2, pz3]
      refine tk 7 ⟨some 24, .load 50 (.tmp 23), 50, "same.go:106", #[⟨6, .data⟩], none⟩ ?_; try simp only [Act.put, pz1, pz2, pz3]
      refine tk 8 ⟨some 25, .binOp .neq 50 (.tmp 20) (.tmp 24) 50, 4, "same.go:106", #[⟨3, .data⟩, ⟨7, .data⟩], none⟩ ?_; try simp only [Act.put, pz1, pz2, pz3]
      refine wpAnyH_done (by kernel_rfl) ?_ _
      refine NoPanic.normal ?_
      go_wp2_with fail
      go_roundw
      case rel => exact ⟨k + 1, by omega, by go_num, (by first | exact hB | exact drew_below hB)⟩
      case measure => simp [intOf]; omega
    · obtain rfl : k = n := by omega
      go_wp2_with fail
      go_ret
      exact ⟨rfl, hB⟩
theorem find_yes (s : Sf) (v : Value) (x : Int) (w : World) (hS : ShR w w.heap.size v s) (hT : Tabs w) (hM : mayS s = true) (k : Nat) (n : Nt) (hk : noteAt s x = (k : Int)) (hn : s.ts[k]? = some n) :
    Calls Tryz.prog 48 #[v, .int .i64 x] w fun e' w' => ∃ v1 v2, e' = .returned (.tuple #[.agg #[.int .i64 n.id, .int .i64 n.bk, .string n.nm, v1, v2], .bool true]) ∧ w'.ownsRow w.heap.size 9 1 v1 n.tg.length (n.tg.map strV) ∧ w'.ownsRow w.heap.size 3 1 v2 n.sh.length (n.sh.map (Value.int .i64)) ∧ Below w.heap.size w w' := by
  have hS0 := hS
  obtain ⟨Ab, cb, An, cn, rfl, hB, hN, hcb, hmb, hcn, hmn⟩ := hS.ex
  clear hS
  have HB : Below w.heap.size w ((w.alloc (.cells #[.int .i64 s.nb, .int .i64 s.nn, .int .i64 s.ns, .slice Ab s.bs.length cb, .slice An s.ts.length cn] 25)).alloc (.cells #[.int .i64 0, .int .i64 0, .string ⟨#[]⟩, .slice none 0 0, .slice none 0 0] 54)) := (((Below.refl w.heap.size w).alloc (by first | (simp; done) | (simp; omega)) _).alloc (by first | (simp; done) | (simp; omega)) _)
  have B1 : Blk ((w.alloc (.cells #[.int .i64 s.nb, .int .i64 s.nn, .int .i64 s.ns, .slice Ab s.bs.length cb, .slice An s.ts.length cn] 25)).alloc (.cells #[.int .i64 0, .int .i64 0, .string ⟨#[]⟩, .slice none 0 0, .slice none 0 0] 54)) w.heap.size 25 #[.int .i64 s.nb, .int .i64 s.nn, .int .i64 s.ns, .slice Ab s.bs.length cb, .slice An s.ts.length cn] := (Blk.new_ w 25 #[.int .i64 s.nb, .int .i64 s.nn, .int .i64 s.ns, .slice Ab s.bs.length cb, .slice An s.ts.length cn]).alloc_ (.cells #[.int .i64 0, .int .i64 0, .string ⟨#[]⟩, .slice none 0 0, .slice none 0 0] 54)
  have B2 : Blk ((w.alloc (.cells #[.int .i64 s.nb, .int .i64 s.nn, .int .i64 s.ns, .slice Ab s.bs.length cb, .slice An s.ts.length cn] 25)).alloc (.cells #[.int .i64 0, .int .i64 0, .string ⟨#[]⟩, .slice none 0 0, .slice none 0 0] 54)) (w.heap.size + 1) 54 #[.int .i64 0, .int .i64 0, .string ⟨#[]⟩, .slice none 0 0, .slice none 0 0] := by
    have := Blk.new_ (w.alloc (.cells #[.int .i64 s.nb, .int .i64 s.nn, .int .i64 s.ns, .slice Ab s.bs.length cb, .slice An s.ts.length cn] 25)) 54 #[.int .i64 0, .int .i64 0, .string ⟨#[]⟩, .slice none 0 0, .slice none 0 0]
    simpa using this
  have S1 : ShR ((w.alloc (.cells #[.int .i64 s.nb, .int .i64 s.nn, .int .i64 s.ns, .slice Ab s.bs.length cb, .slice An s.ts.length cn] 25)).alloc (.cells #[.int .i64 0, .int .i64 0, .string ⟨#[]⟩, .slice none 0 0, .slice none 0 0] 54)) (((w.alloc (.cells #[.int .i64 s.nb, .int .i64 s.nn, .int .i64 s.ns, .slice Ab s.bs.length cb, .slice An s.ts.length cn] 25)).alloc (.cells #[.int .i64 0, .int .i64 0, .string ⟨#[]⟩, .slice none 0 0, .slice none 0 0] 54))).heap.size (.agg #[.int .i64 s.nb, .int .i64 s.nn, .int .i64 s.ns, .slice Ab s.bs.length cb, .slice An s.ts.length cn]) s := hS0.next HB
  have T1 := hT.next HB
  have hlr := (mayF_of hM).small n (List.mem_of_getElem? hn)
  have hlk : k < s.ts.length := (List.getElem?_eq_some_iff.1 hn).1
  have i0 : ¬ (k : Int) < 0 := by omega
  have i2 : (0 : Int) ≤ (k : Int) := by omega
  obtain ⟨m, hm⟩ : ∃ m, s.ts.length = m := ⟨_, rfl⟩
  have i1 : (k : Int) < (m : Int) := by omega
  rw [hm] at HB B1 S1 T1 B2 ⊢
  have HL1 := Lib.hid hlr.1
  have HL2 := Lib.hid hlr.2
  obtain ⟨es, hel, hse, hnt⟩ := hN.ex
  obtain ⟨e0, he⟩ : ∃ e, es[k]? = some e := ⟨_, List.getElem?_eq_getElem (by omega)⟩
  obtain ⟨At, ct, As, cs, rfl, hAt, hAs, htc, htm, hsc, hsm⟩ := (hnt k n e0 hn he).ex
  obtain ⟨b1, o1, rfl, l1, q1⟩ := hse.at_ (by omega)
  have HI := Lib.hid hk
  have HM := Lib.hid hM
  have y0 := q1 k _ he 0 _ rfl
  have y1 := q1 k _ he 1 _ rfl
  have y2 := q1 k _ he 2 _ rfl
  have y3 := q1 k _ he 3 _ rfl
  have y4 := q1 k _ he 4 _ rfl
  simp only [Nat.add_zero] at y0
  clear hM hk hS0 hT hB hcb hmb hcn hmn hlr he hnt q1 hse hel hm hlk hn hN
  go_enter Tryz.func48, Tryz.ntmps48
  go_upto_region 4 with (first | (go_at_call 84; ((with_reducible refine (pNote_any s _ x _ S1).mono ?_); rintro e' w3 ⟨rfl, bx⟩; rw [HI.out]; have S1 := S1.next bx; have T1 := T1.next bx; have B1 := B1.below bx B1.lt; have B2 := B2.below bx B2.lt; have HB := btr HB HB.size bx; (try clear k0 k1 k2 k3 k4 r0 r1 r2 r3 r4 t0 t1 t2 t3 t4); have k0 := B1.cell_ 0; have r0 := B2.cell_ 0; have t0 := B2.free 0; have k1 := B1.cell_ 1; have r1 := B2.cell_ 1; have t1 := B2.free 1; have k2 := B1.cell_ 2; have r2 := B2.cell_ 2; have t2 := B2.free 2; have k3 := B1.cell_ 3; have r3 := B2.cell_ 3; have t3 := B2.free 3; have k4 := B1.cell_ 4; have r4 := B2.cell_ 4; have t4 := B2.free 4; simp at k0 k1 k2 k3 k4 r0 r1 r2 r3 r4; clear bx)) | (go_at_call 28; ((with_reducible refine (smay_any s _ _ S1 T1 _ HM.out).mono ?_); rintro e' w4 ⟨rfl, bx⟩; have S1 := S1.next bx; have T1 := T1.next bx; have B1 := B1.below bx B1.lt; have B2 := B2.below bx B2.lt; have HB := btr HB HB.size bx; (try clear k0 k1 k2 k3 k4 r0 r1 r2 r3 r4 t0 t1 t2 t3 t4); have k0 := B1.cell_ 0; have r0 := B2.cell_ 0; have t0 := B2.free 0; have k1 := B1.cell_ 1; have r1 := B2.cell_ 1; have t1 := B2.free 1; have k2 := B1.cell_ 2; have r2 := B2.cell_ 2; have t2 := B2.free 2; have k3 := B1.cell_ 3; have r3 := B2.cell_ 3; have t3 := B2.free 3; have k4 := B1.cell_ 4; have r4 := B2.cell_ 4; have t4 := B2.free 4; simp at k0 k1 k2 k3 k4 r0 r1 r2 r3 r4; clear bx)))
  have z0 := (HB.cell (p := ⟨b1, o1 + k * 5, none⟩) l1).trans y0
  have z1 := (HB.cell (p := ⟨b1, o1 + k * 5 + 1, none⟩) l1).trans y1
  have z2 := (HB.cell (p := ⟨b1, o1 + k * 5 + 2, none⟩) l1).trans y2
  have z3 := (HB.cell (p := ⟨b1, o1 + k * 5 + 3, none⟩) l1).trans y3
  have z4 := (HB.cell (p := ⟨b1, o1 + k * 5 + 4, none⟩) l1).trans y4
  have hAt2 := (hAt.below HB).mono_ HB.size
  have hAs2 := (hAs.below HB).mono_ HB.size
  have hz4 : w.heap.size + 1 < w4.heap.size := B2.lt
  clear y0 y1 y2 y3 y4 hAt hAs S1 T1 B1 k0 k1 k2 k3
  go_wp2_with (go_at_call 85; ((with_reducible refine (cloneNote_any n At ct As cs _ hAt2 hAs2 HL1.out HL2.out).mono ?_); rintro e' w5 ⟨v1, v2, rfl, p1, p2, b5⟩; obtain ⟨A7, c7, rfl, -, -⟩ := own_shape p1; obtain ⟨A8, c8, rfl, -, -⟩ := own_shape p2; have B2 := B2.below b5 B2.lt; have HB := btr HB HB.size b5; (clear r0 r1 r2 r3 r4 t0 t1 t2 t3 t4); have r0 := B2.cell_ 0; have r1 := B2.cell_ 1; have r2 := B2.cell_ 2; have r3 := B2.cell_ 3; have r4 := B2.cell_ 4; simp at r0 r1 r2 r3 r4; have t0 := B2.free 0; have t1 := B2.free 1; have t2 := B2.free 2; have t3 := B2.free 3; have t4 := B2.free 4; clear b5))
  have B2u := B2.st5_ (.int .i64 n.id) (.int .i64 n.bk) (.string n.nm) (.slice A7 n.tg.length c7) (.slice A8 n.sh.length c8)
  have hgE := st5_grown w5 (w.heap.size + 1) 0 (.int .i64 n.id) (.int .i64 n.bk) (.string n.nm) (.slice A7 n.tg.length c7) (.slice A8 n.sh.length c8)
  have hb2 := below_grown HB hgE (by omega) HB.size
  have p1u := p1.kept hgE (own_off p1 (by omega))
  have p2u := p2.kept hgE (own_off p2 (by omega))
  change bodyPost _ _ _ _ _ (st5 w5 (w.heap.size + 1) 0 (.int .i64 n.id) (.int .i64 n.bk) (.string n.nm) (.slice A7 n.tg.length c7) (.slice A8 n.sh.length c8))
  clear hgE
  generalize st5 w5 (w.heap.size + 1) 0 (.int .i64 n.id) (.int .i64 n.bk) (.string n.nm) (.slice A7 n.tg.length c7) (.slice A8 n.sh.length c8) = WF at B2u hb2 p1u p2u ⊢
  apply bodyPost_ret (v := .tuple #[.agg #[.int .i64 n.id, .int .i64 n.bk, .string n.nm, .slice A7 n.tg.length c7, .slice A8 n.sh.length c8], .bool true])
  · exact results_cell1 Tryz.results48 _ WF (w.heap.size + 1) 54 _ (0, 0) _ rfl B2u Tryz.underlying54 rfl (by kernel_rfl)
  · rfl
  · exact ⟨_, _, rfl, own_base p1u (by omega), own_base p2u (by omega), hb2⟩
end Go.Proofs.YteokeghenjobaaaGreatDoor
namespace Go.Proofs.YteokeghenjobaaaGreatDoor
open Go.ChangeShapes Go.WideShapes Go.ChangeAt Go.RowKit
attribute [local go_sem ↓] Go.wp_at_zero Go.wp_at_succ
attribute [local go_sem] Oper.semAt_some
theorem infoKn : (Tryz.prog.info? 82).map (fun i => (i.zero, i.size, i.bytes)) = some (some (.agg #[.int .i64 0, .string ByteArray.empty, .int .i64 0]), 3, 32) := by kernel_rfl
@[go_sem] theorem build_kn (a c : Int) (b : ByteArray) (w : World) : (Instr.buildSlice 79 1 #[(0, .agg #[.int .i64 a, .string b, .int .i64 c])]).run Tryz.prog w = .ok (.slice (some ⟨w.heap.size, 0, none⟩) 1 1) (w.alloc (.cells #[.int .i64 a, .string b, .int .i64 c] 82)) := by kernel_rfl
theorem one1K (x : Kn) : ∀ u ∈ knC x, u.oneCell' = true := by
  intro u hu
  simp [knC] at hu
  rcases hu with rfl | rfl | rfl <;> rfl
theorem rd_newK (w : World) (x : Kn) {g : Nat} (hg : g = w.heap.size) : Rd (w.alloc (.cells #[.int .i64 x.id, .string x.nm, .int .i64 x.cm] 82)) (some ⟨g, 0, none⟩) 1 3 (knC x) := by
  subst hg
  refine ⟨rfl, Or.inr ⟨_, 0, rfl, fun j u hj => ?_⟩⟩
  rw [Joins.cell_of_block (heap_alloc_new w _), Nat.zero_add]
  simpa [knC] using hj
def RowK (w : World) (base : Nat) (v : Value) (L : List Kn) : Prop := w.ownsRow base 82 3 v L.length (L.map knC).flatten
theorem RowK.snoc {w : World} {base : Nat} {v : Value} {L : List Kn} {x : Kn} (h : w.ownsRow base 82 3 v (L.length + 1) ((L.map knC).flatten ++ knC x)) : RowK w base v (L ++ [x]) := by
  unfold RowK
  rw [List.length_append, List.map_append, List.flatten_append]
  simpa using h
theorem kin_any (s : Sf) (v : Value) (x : Int) (w : World) (hS : ShR w w.heap.size v s) (hT : Tabs w) (hM : mayS s = true) (ki : Nat) (of : Nt) (hI : noteAt s x = (ki : Int)) (hof : s.ts[ki]? = some of) :
    Calls Tryz.prog 14 #[v, .int .i64 x] w fun e' w' => ∃ (A : Option Addr) (c : Nat) (ks : List Kn), e' = .returned (.tuple #[.slice A ks.length c, .int .i64 0]) ∧ ks.Perm (kinsL s of x) ∧ OrdK ks ∧ w'.ownsRow w.heap.size 50 2 (.slice A ks.length c) ks.length ((ks.map knIt).map itC).flatten ∧ Below w.heap.size w w' := by
  have hF := mayF_of hM
  have hS0 := hS
  obtain ⟨Ab, cb, An, cn, rfl, hB, hN, hcb, hmb, hcn, hmn⟩ := hS.ex
  clear hS
  obtain ⟨n, hn⟩ : ∃ n, s.ts.length = n := ⟨_, rfl⟩
  obtain ⟨bn, hbn⟩ : ∃ n, s.bs.length = n := ⟨_, rfl⟩
  have HB : Below w.heap.size w (w.alloc (.cells #[.int .i64 s.nb, .int .i64 s.nn, .int .i64 s.ns, .slice Ab s.bs.length cb, .slice An s.ts.length cn] 25)) := ((Below.refl w.heap.size w).alloc (by first | (simp; done) | (simp; omega)) _)
  have B1 : Blk (w.alloc (.cells #[.int .i64 s.nb, .int .i64 s.nn, .int .i64 s.ns, .slice Ab s.bs.length cb, .slice An s.ts.length cn] 25)) w.heap.size 25 #[.int .i64 s.nb, .int .i64 s.nn, .int .i64 s.ns, .slice Ab s.bs.length cb, .slice An s.ts.length cn] := Blk.new_ w 25 #[.int .i64 s.nb, .int .i64 s.nn, .int .i64 s.ns, .slice Ab s.bs.length cb, .slice An s.ts.length cn]
  have S1 : ShR (w.alloc (.cells #[.int .i64 s.nb, .int .i64 s.nn, .int .i64 s.ns, .slice Ab s.bs.length cb, .slice An s.ts.length cn] 25)) ((w.alloc (.cells #[.int .i64 s.nb, .int .i64 s.nn, .int .i64 s.ns, .slice Ab s.bs.length cb, .slice An s.ts.length cn] 25))).heap.size (.agg #[.int .i64 s.nb, .int .i64 s.nn, .int .i64 s.ns, .slice Ab s.bs.length cb, .slice An s.ts.length cn]) s := hS0.next HB
  have T1 := hT.next HB
  obtain ⟨es, hel, hse, hnt⟩ := hN.ex
  simp only [hn, hbn] at HB B1 S1 T1 hel ⊢
  have hn12 : n ≤ 12 := by have := hF.tl; omega
  have HEL := Lib.hid hel
  have HN := Lib.hid hn
  have HM := Lib.hid hM
  have HI := Lib.hid (And.intro hI hof)
  have HFF := Lib.hid hF
  have HOF : Hid (of.tg.length ≤ 4) := Lib.hid (hF.note (List.mem_of_getElem? hof)).1
  clear hM hn hbn hS0 hT hel hB hF hI hof
  go_enter Tryz.func14, Tryz.ntmps14
  go_upto_region 4 with (first | (go_at_call 28; ((with_reducible refine (smay_any s _ _ S1 T1 _ HM.out).mono ?_); rintro e' w3 ⟨rfl, b3⟩; have T1 := T1.next b3; have S1 := S1.next b3; have B1 := B1.below b3 B1.lt; have HB := btr HB HB.size b3; (try clear k0 k1 k2 k3 k4); have k0 := B1.cell_ 0; have k1 := B1.cell_ 1; have k2 := B1.cell_ 2; have k3 := B1.cell_ 3; have k4 := B1.cell_ 4; simp at k0 k1 k2 k3 k4; clear b3)) | (go_at_call 48; ((with_reducible refine (find_yes s _ x _ S1 T1 HM.out ki of HI.out.1 HI.out.2).mono ?_); rintro e' w4 ⟨v1, v2, rfl, r1, r2, b4⟩; obtain ⟨A6, c6, rfl, hc6, hm6⟩ := own_shape r1; obtain ⟨A7, c7, rfl, -, -⟩ := own_shape r2; have S1 := S1.next b4; have B1 := B1.below b4 B1.lt; have HB := btr HB HB.size b4; (try clear k0 k1 k2 k3 k4); have k0 := B1.cell_ 0; have k1 := B1.cell_ 1; have k2 := B1.cell_ 2; have k3 := B1.cell_ 3; have k4 := B1.cell_ 4; simp at k0 k1 k2 k3 k4; clear b4)))
  obtain ⟨ol, hol⟩ : ∃ n, of.tg.length = n := ⟨_, rfl⟩
  obtain ⟨os, hos⟩ : ∃ n, of.sh.length = n := ⟨_, rfl⟩
  have hTO0 : Sl w4 w4.heap.size A6 (of.tg.map strV) := Sl.of_own r1
  rw [hol, hos]
  have HOL := Lib.hid (And.intro hol hos)
  have hal : Below w4.heap.size w4 (w4.alloc (.cells #[.int .i64 of.id, .int .i64 of.bk, .string of.nm, .slice A6 ol c6, .slice A7 os c7] 54)) := (Below.refl _ w4).alloc (Nat.le_refl _) _
  have hTO1 := (hTO0.below hal).mono_ hal.size
  have BO0 : Blk (w4.alloc (.cells #[.int .i64 of.id, .int .i64 of.bk, .string of.nm, .slice A6 ol c6, .slice A7 os c7] 54)) w4.heap.size 54 #[.int .i64 of.id, .int .i64 of.bk, .string of.nm, .slice A6 ol c6, .slice A7 os c7] := Blk.new_ w4 54 #[.int .i64 of.id, .int .i64 of.bk, .string of.nm, .slice A6 ol c6, .slice A7 os c7]
  have HBQ := btr HB HB.size hal
  have B1q := B1.below hal B1.lt
  have z4 : w4.heap.size < (w4.alloc (.cells #[.int .i64 of.id, .int .i64 of.bk, .string of.nm, .slice A6 ol c6, .slice A7 os c7] 54)).heap.size := by simp
  clear hol hos r1 r2 HB B1 S1 T1 hTO0 hal k0 k1 k2 k3 k4 hc6 hm6
  obtain ⟨w5, hw5⟩ : ∃ V, V = w4.alloc (.cells #[.int .i64 of.id, .int .i64 of.bk, .string of.nm, .slice A6 ol c6, .slice A7 os c7] 54) := ⟨_, rfl⟩
  rw [← hw5] at hTO1 BO0 HBQ B1q z4 ⊢
  clear hw5
  obtain ⟨go, hgo⟩ : ∃ g, w4.heap.size = g := ⟨_, rfl⟩
  rw [hgo] at BO0 z4 ⊢
  clear hgo
  have k4 := B1q.cell_ 4
  simp at k4
  go_upto_region 8 with fail
  clear k4
  go_loopw [8, 29] (fun sv i wr => ∃ k : Nat, k ≤ n ∧ i = .int .i64 k ∧ Hid (RowK wr w5.heap.size sv (((s.ts.take k).filter (kinB of x)).map (kinIt of))) ∧ Below w5.heap.size w5 wr) (fun _ i _ => n - (intOf i).toNat)
  case atStart => exact ⟨0, by omega, rfl, Lib.hid (World.ownsRow_nil _ _ _ _), Below.refl _ _⟩
  case round =>
    obtain ⟨k, hk, rfl, HR, HBr⟩ := hrel
    by_cases hlt : k < n
    · have hlx : k < s.ts.length := by have := HN.out; omega
      have hw4 := HBQ.size
      have i0 : (0 : Int) ≤ (k : Int) := by omega
      have i1 : (k : Int) < (n : Int) := by omega
      obtain ⟨y, hx⟩ : ∃ y, s.ts[k]? = some y := ⟨_, List.getElem?_eq_getElem hlx⟩
      have hsm := HFF.out.note (List.mem_of_getElem? hx)
      obtain ⟨e0, he⟩ : ∃ e, es[k]? = some e := ⟨_, List.getElem?_eq_getElem (by have := HEL.out; omega)⟩
      obtain ⟨At, ct, As, cs, rfl, hyt, -⟩ := (hnt k y e0 hx he).ex
      obtain ⟨b1, o1, rfl, l1, q1⟩ := hse.at_ (by have := HEL.out; omega)
      have HBw := btr HBQ HBQ.size HBr
      have y0 : wr.cell? ⟨b1, o1 + k * 5 + 0, none⟩ = some (.int .i64 y.id) := (HBw.cell (p := ⟨b1, _, none⟩) l1).trans (q1 k _ he 0 _ rfl)
      have y1 : wr.cell? ⟨b1, o1 + k * 5 + 1, none⟩ = some (.int .i64 y.bk) := (HBw.cell (p := ⟨b1, _, none⟩) l1).trans (q1 k _ he 1 _ rfl)
      have y2 : wr.cell? ⟨b1, o1 + k * 5 + 2, none⟩ = some (.string y.nm) := (HBw.cell (p := ⟨b1, _, none⟩) l1).trans (q1 k _ he 2 _ rfl)
      have y3 : wr.cell? ⟨b1, o1 + k * 5 + 3, none⟩ = some (.slice At y.tg.length ct) := (HBw.cell (p := ⟨b1, _, none⟩) l1).trans (q1 k _ he 3 _ rfl)
      have y4 : wr.cell? ⟨b1, o1 + k * 5 + 4, none⟩ = some (.slice As y.sh.length cs) := (HBw.cell (p := ⟨b1, _, none⟩) l1).trans (q1 k _ he 4 _ rfl)
      simp only [Nat.add_zero] at y0
      have HX := Lib.hid hx
      obtain ⟨L, hL⟩ : ∃ L, ((s.ts.take k).filter (kinB of x)).map (kinIt of) = L := ⟨_, rfl⟩
      have hL6 : L.length ≤ 12 := by
        rw [← hL, List.length_map]
        have h1 := List.length_filter_le (kinB of x) (s.ts.take k)
        rw [List.length_take] at h1
        omega
      rw [hL] at HR
      have HL := Lib.hid hL
      obtain ⟨m, hm⟩ : ∃ m, comN of.tg y.tg = m := ⟨_, rfl⟩
      have hm4 : m ≤ 4 := by
        rw [← hm]
        unfold comN
        exact Nat.le_trans (List.length_filter_le _ _) HOF.out
      have hal : Below wr.heap.size wr (wr.alloc (.cells #[.int .i64 y.id, .int .i64 y.bk, .string y.nm, .slice At y.tg.length ct, .slice As y.sh.length cs] 54)) := (Below.refl _ wr).alloc (Nat.le_refl _) _
      have hcm := common_any of.tg y.tg A6 At c6 ct (wr.alloc (.cells #[.int .i64 y.id, .int .i64 y.bk, .string y.nm, .slice At y.tg.length ct, .slice As y.sh.length cs] 54)) (((hTO1.below (HBr.trans (hal.mono HBr.size))).mono_ (HBr.trans (hal.mono HBr.size)).size)) ((hyt.below (btr HBw HBw.size hal)).mono_ (btr HBw HBw.size hal).size) (by have := HOF.out; omega) (by omega)
      rw [hm, HOL.out.1] at hcm
      obtain ⟨yt, hyt2⟩ : ∃ n, y.tg.length = n := ⟨_, rfl⟩
      obtain ⟨ys, hys⟩ : ∃ n, y.sh.length = n := ⟨_, rfl⟩
      simp only [hyt2, hys] at y3 y4 hcm hal
      have o3 : (wr.alloc (.cells #[.int .i64 y.id, .int .i64 y.bk, .string y.nm, .slice At yt ct, .slice As ys cs] 54)).cell? ⟨go, 3, none⟩ = some (.slice A6 ol c6) := by have := (BO0.below (HBr.trans (hal.mono HBr.size)) BO0.lt).cell_ 3; simpa using this
      have HON : Hid (RowK (wr.alloc (.cells #[.int .i64 y.id, .int .i64 y.bk, .string y.nm, .slice At yt ct, .slice As ys cs] 54)) w5.heap.size _ L) := Lib.hid (own_belowW HR.out hal)
      have HBa := HBr.trans (hal.mono HBr.size)
      have BN : Blk (wr.alloc (.cells #[.int .i64 y.id, .int .i64 y.bk, .string y.nm, .slice At yt ct, .slice As ys cs] 54)) wr.heap.size 54 #[.int .i64 y.id, .int .i64 y.bk, .string y.nm, .slice At yt ct, .slice As ys cs] := Blk.new_ wr 54 #[.int .i64 y.id, .int .i64 y.bk, .string y.nm, .slice At yt ct, .slice As ys cs]
      have HCM := Lib.hid hcm
      have HM2 := Lib.hid (And.intro hm (And.intro hyt2 hys))
      clear hx he q1 hsm hcm hL hm hyt2 hys hyt HR HBr HBw
      have hB2 := Lib.hid hal
      clear hal
      go_upto_region 10 with fail
      obtain ⟨W, hW⟩ : ∃ V, V = wr.alloc (.cells #[.int .i64 y.id, .int .i64 y.bk, .string y.nm, .slice At yt ct, .slice As ys cs] 54) := ⟨_, rfl⟩
      have hsz2 : wr.heap.size < W.heap.size := by rw [hW]; simp
      rw [← hW] at o3 HON HBa BN HCM ⊢
      clear hW hB2 y0 y1 y2 y3 y4
      obtain ⟨g1, hg1⟩ : ∃ g, wr.heap.size = g := ⟨_, rfl⟩
      rw [hg1] at BN hsz2 ⊢
      clear hg1
      have hwW := HBa.size
      obtain ⟨x0, x1, x2, x3, x4⟩ := cell5 BN
      rcases (by cases hq : decide (0 < m) <;> simp : decide (0 < m) = true ∨ decide (0 < m) = false) with hp | hp
      · have p1 : (0 : Int) < (m : Int) := by have := of_decide_eq_true hp; omega
        rcases (by cases hq : (y.id != x) <;> simp : (y.id != x) = true ∨ (y.id != x) = false) with hr | hr
        · have HLN : Hid (((s.ts.take (k + 1)).filter (kinB of x)).map (kinIt of) = L ++ [⟨y.id, y.nm, (m : Int)⟩]) := Lib.hid (by rw [filter_yes HX.out (by unfold kinB; rw [HM2.out.1, hp, hr]; rfl), List.map_append, HL.out]; show L ++ [kinIt of y] = _; unfold kinIt; rw [HM2.out.1])
          have hon : W.ownsRow w5.heap.size 82 3 _ L.length (L.map knC).flatten := HON.out
          clear HON hp BN x1 x4
          go_wp2_with (first | (go_at_call 49; ((with_reducible refine HCM.out.mono ?_); rintro e' w7 ⟨rfl, rfl⟩)) | (at_builtin; obtain ⟨ti0, hi, hz0, hz1, hz2⟩ := info_parts infoKn; refine wpList_app _ rfl (.tmp 46) (.tmp 54) _ rfl w5.heap.size 82 ti0 _ 3 32 Tryz.underlying79 hi hz0 hz1 hz2 rfl (by decide) _ L.length (L.map knC).flatten rfl (hon.alloc _) _ 1 _ (knC ⟨y.id, y.nm, (m : Int)⟩) rfl (rd_newK _ ⟨y.id, y.nm, (m : Int)⟩ (by simp)) (one1K _) (by unfold maxLen; omega) (by omega) (by simp; omega) ?_; intro v' w' ho' hg' hv'; clear hi hz0 hz1 hz2))
          have HF : Below w5.heap.size w5 w' := (HBa.alloc HBa.size _).trans (below_app (by omega) (by simp; omega) (hon.alloc _) hg')
          have HR2 : Hid (RowK w' w5.heap.size v' (((s.ts.take (k + 1)).filter (kinB of x)).map (kinIt of))) := Lib.hid (by rw [HLN.out]; exact RowK.snoc ho')
          clear ho' hg' hv' hon x0 x2 x3
          go_roundw
          case rel => exact ⟨k + 1, by omega, by go_num, HR2, HF⟩
          case measure => simp [intOf]; omega
        · have HLN : Hid (((s.ts.take (k + 1)).filter (kinB of x)).map (kinIt of) = L) := Lib.hid (by rw [filter_no HX.out (by unfold kinB; rw [hr, Bool.and_false]), HL.out])
          have HR2 : Hid (RowK W w5.heap.size _ (((s.ts.take (k + 1)).filter (kinB of x)).map (kinIt of))) := Lib.hid (by rw [HLN.out]; exact HON.out)
          clear HON hp
          go_wp2_with (go_at_call 49; ((with_reducible refine HCM.out.mono ?_); rintro e' w7 ⟨rfl, rfl⟩))
          go_roundw
          case rel => exact ⟨k + 1, by omega, by go_num, HR2, HBa⟩
          case measure => simp [intOf]; omega
      · have HLN : Hid (((s.ts.take (k + 1)).filter (kinB of x)).map (kinIt of) = L) := Lib.hid (by rw [filter_no HX.out (by unfold kinB; rw [HM2.out.1, hp, Bool.false_and]), HL.out])
        have p1 : ¬ (0 : Int) < (m : Int) := by have := of_decide_eq_false hp; omega
        have HR2 : Hid (RowK W w5.heap.size _ (((s.ts.take (k + 1)).filter (kinB of x)).map (kinIt of))) := Lib.hid (by rw [HLN.out]; exact HON.out)
        clear HON hp
        go_wp2_with (go_at_call 49; ((with_reducible refine HCM.out.mono ?_); rintro e' w7 ⟨rfl, rfl⟩))
        go_roundw
        case rel => exact ⟨k + 1, by omega, by go_num, HR2, HBa⟩
        case measure => simp [intOf]; omega
    · have hjn : k = n := by omega
      subst hjn
      have hw4 := HBQ.size
      rw [List.take_of_length_le (by rw [HN.out]; exact Nat.le_refl _)] at HR
      have hfl : (kinsL s of x).length ≤ 12 := by
        unfold kinsL
        rw [List.length_map]
        have h1 := List.length_filter_le (kinB of x) s.ts
        have := HN.out
        omega
      have HRo := HR.out
      unfold RowK at HRo
      rw [show (s.ts.filter (kinB of x)).map (kinIt of) = kinsL s of x from rfl] at HRo
      obtain ⟨A5, c5, rfl, hc5, hm5⟩ := own_shape HRo
      have hso := sortK_own (kinsL s of x) _ _ wr HRo (by omega)
      obtain ⟨hl, hhl⟩ : ∃ n, (kinsL s of x).length = n := ⟨_, rfl⟩
      rw [hhl] at hso hfl ⊢
      have HHL := Lib.hid hhl
      have HSO := Lib.hid hso
      clear hlt hso hhl HRo HR hc5 hm5
      go_upto_region 17 with (go_at_call 50; ((with_reducible refine HSO.out.mono ?_); rintro e' w6 ⟨rfl, ks, p1, p2, p3, p4⟩; clear HSO))
      have hle : ks.length = hl := p1.length_eq.trans HHL.out
      have hKS : SlE 3 w6 w6.heap.size A5 (ks.map knC) := sle_of_own (by rw [hle] at p3; exact p3) (fun x hx => by obtain ⟨y, _, rfl⟩ := List.mem_map.1 hx; rfl) (by decide)
      have HLE := Lib.hid hle
      have HB6 := (HBQ.trans (HBr.mono hw4)).trans (p4.mono hw4)
      have hw6 := HB6.size
      have HP := Lib.hid (And.intro p1 p2)
      clear hle p1 p2 p3 p4 HBr
      go_loopw [12, 61] (fun sv i wr => ∃ k : Nat, k ≤ hl ∧ i = .int .i64 k ∧ Hid (RowI wr w6.heap.size sv ((ks.take k).map knIt)) ∧ Below w6.heap.size w6 wr) (fun _ i _ => hl - (intOf i).toNat)
      case atStart => exact ⟨0, by omega, rfl, Lib.hid (World.ownsRow_nil _ _ _ _), Below.refl _ _⟩
      case round =>
        obtain ⟨j, hj, rfl, HR, HBr⟩ := hrel
        have hsz := HBr.size
        by_cases hlt : j < hl
        · have hlx : j < ks.length := by have := HLE.out; omega
          have i0 : (0 : Int) ≤ (j : Int) := by omega
          have i1 : (j : Int) < (hl : Int) := by omega
          obtain ⟨y, hx⟩ : ∃ y, ks[j]? = some y := ⟨_, List.getElem?_eq_getElem hlx⟩
          obtain ⟨b1, o1, rfl, l1, q1⟩ := hKS.at_ (by rw [List.length_map]; omega)
          have he : (ks.map knC)[j]? = some (knC y) := by rw [List.getElem?_map, hx]; rfl
          have y0 : wr.cell? ⟨b1, o1 + j * 3 + 0, none⟩ = some (.int .i64 y.id) := (HBr.cell (p := ⟨b1, _, none⟩) l1).trans (q1 j _ he 0 _ rfl)
          have y1 : wr.cell? ⟨b1, o1 + j * 3 + 1, none⟩ = some (.string y.nm) := (HBr.cell (p := ⟨b1, _, none⟩) l1).trans (q1 j _ he 1 _ rfl)
          have y2 : wr.cell? ⟨b1, o1 + j * 3 + 2, none⟩ = some (.int .i64 y.cm) := (HBr.cell (p := ⟨b1, _, none⟩) l1).trans (q1 j _ he 2 _ rfl)
          simp only [Nat.add_zero] at y0
          obtain ⟨L, hL⟩ : ∃ L, (ks.take j).map knIt = L := ⟨_, rfl⟩
          have hL6 : L.length ≤ 12 := by
            rw [← hL, List.length_map, List.length_take]
            omega
          rw [hL] at HR
          have HLN : Hid ((ks.take (j + 1)).map knIt = L ++ [knIt y]) := Lib.hid (by rw [List.take_add_one, hx, List.map_append, hL]; rfl)
          have hon : wr.ownsRow w6.heap.size 50 2 _ L.length (L.flatMap itC) := HR.out
          clear HR hL hx he q1 hlx
          go_wp2_with (at_builtin; obtain ⟨ti0, hi, hz0, hz1, hz2⟩ := info_parts infoIt; refine wpList_app _ rfl (.tmp 65) (.tmp 68) _ rfl w6.heap.size 50 ti0 _ 2 24 Tryz.underlying29 hi hz0 hz1 hz2 rfl (by decide) _ L.length (L.flatMap itC) rfl ((hon.alloc _).alloc _) _ 1 _ (itC (knIt y)) rfl (rd_newI _ (knIt y) (by simp)) (one1I _) (by unfold maxLen; omega) (by omega) (by simp; omega) ?_; intro v' w' ho' hg' hv'; clear hi hz0 hz1 hz2)
          have HF : Below w6.heap.size w6 w' := ((HBr.alloc HBr.size _).alloc (by simp; omega) _).trans (below_app (by omega) (by simp; omega) ((hon.alloc _).alloc _) hg')
          have HR2 : Hid (RowI w' w6.heap.size v' ((ks.take (j + 1)).map knIt)) := Lib.hid (by rw [HLN.out]; exact RowI.snoc ho')
          clear ho' hg' hv' hon y0 y1 y2
          go_roundw
          case rel => exact ⟨j + 1, by omega, by go_num, HR2, HF⟩
          case measure => simp [intOf]; omega
        · have hjn : j = hl := by omega
          subst hjn
          rw [List.take_of_length_le (by rw [HLE.out]; exact Nat.le_refl _)] at HR
          have HRo := HR.out
          unfold RowI at HRo
          rw [flat_mapI, List.length_map] at HRo
          obtain ⟨A8, c8, rfl, hc8, hm8⟩ := own_shape HRo
          have HRO := Lib.hid HRo
          have HLE2 := HLE
          clear HRo HR hc8 hm8 hlt
          go_wp2_with fail
          go_ret2
          exact ⟨A8, c8, ks, rfl, HP.out.1, HP.out.2, own_base HRO.out hw6, HB6.trans (HBr.mono hw6)⟩
end Go.Proofs.YteokeghenjobaaaGreatDoor
namespace Go.Proofs.YteokeghenjobaaaGreatDoor
open Go.ChangeShapes Go.WideShapes Go.ChangeAt Go.RowKit
attribute [local go_sem ↓] Go.wp_at_zero Go.wp_at_succ
attribute [local go_sem] Oper.semAt_some
def RIn : Value → Option (DataW Int × List MemPlace)
  | .int .i64 n => some (.held n, [])
  | _ => none
theorem RIn_mk (x : Int) : RIn (.int .i64 x) = some (.held x, []) := rfl
theorem RIn_inv {v : Value} {x : Int} {ps : List MemPlace} (h : RIn v = some (.held x, ps)) : v = .int .i64 x := by
  unfold RIn at h
  split at h
  · injection h with h
    injection h with h1 _
    injection h1 with h1
    subst h1
    rfl
  · cases h
def OwnS (w : World) (b n : Nat) (M : List UInt8 → Nat) : Prop :=
  ∃ D : DataW Int, w.ownsMap Tryz.prog 9 RIn b n D ∧ ∀ p, Maps.has D (.string p) = decide (0 < M p) ∧ D.atKey (.string p) (.held 0) = .held (M p : Int)
theorem OwnS.made (w : World) : OwnS (w.alloc (.map #[] 0)) w.heap.size 0 (fun _ => 0) :=
  ⟨.map [], World.ownsMap_made w _ _ _, fun p => ⟨rfl, rfl⟩⟩
theorem OwnS.lt {w : World} {b n : Nat} {M : List UInt8 → Nat} (h : OwnS w b n M) : b < w.heap.size := by
  obtain ⟨D, h, _⟩ := h
  exact h.lt
theorem OwnS.below {w w' : World} {b n : Nat} {M : List UInt8 → Nat} (h : OwnS w b n M) (hb : Below w.heap.size w w') : OwnS w' b n M := by
  obtain ⟨D, h, k⟩ := h
  exact ⟨D, h.kept (row := none) ⟨hb.os, hb.tape, hb.output, hb.size, fun k hk _ => hb.block k hk⟩ (by simp), k⟩
theorem OwnS.alloc_ {w : World} {b n : Nat} {M : List UInt8 → Nat} (h : OwnS w b n M) (o : Obj) : OwnS (w.alloc o) b n M := h.below ((Below.refl _ _).alloc (Nat.le_refl _) _)
theorem lawS : Maps.Keyed Tryz.prog 9 := Maps.string_keyed Tryz.underlying9
theorem zeroI (w : World) : (zeroValue 3).run Tryz.prog w = .ok (.int .i64 0) w := by kernel_rfl
theorem litS (p : ByteArray) (h : p.size ≤ maxLen) : keyOf Tryz.prog 9 (.string p) = some (.string p.data.toList) := Go.WideMaps.keyOf_string_mk Tryz.underlying9 h
section
variable (w : World) {ops : Array Oper} {rest : List Oper} {o : Oper} {a : Act} {Q : Exit → Act → World → Prop}
theorem wpList_lookS (hg : o.guard = none) (m x : Operand) (hop : o.op = Op.lookup 86 m x false) (b n : Nat) (M : List UInt8 → Nat) (hm : a.eval m = .map (some b)) (hown : OwnS w b n M) (p : ByteArray) (hx : a.eval x = .string p) (hp : p.size ≤ maxLen) (y : Nat) (hy : M p.data.toList = y)
    (hK : wpList Tryz.prog ops Q rest (a.put o.dst (.int .i64 (y : Int))) w) : wpList Tryz.prog ops Q (o :: rest) a w := by
  obtain ⟨D, h, k⟩ := hown
  refine wpList_plain hg fun K' hK' => ?_
  obtain ⟨v, ps, hrun, hv⟩ := h.lookup lawS Tryz.underlying86 (zeroI w) (RIn_mk 0) (litS p hp)
  rw [(k _).2, hy] at hv
  obtain rfl := RIn_inv hv
  unfold Oper.wp
  simp [execOp, hop, hm, hx, hrun, Result.andThen]
  exact hK' _ _ hK
theorem wpList_putS (hg : o.guard = none) (m x v : Operand) (hop : o.op = Op.mapUpdate 86 m x v) (b n : Nat) (M : List UInt8 → Nat) (hm : a.eval m = .map (some b)) (hown : OwnS w b n M) (hn : n ≤ 1000000) (p : ByteArray) (hx : a.eval x = .string p) (hp : p.size ≤ maxLen) (y : Nat) (hy : 0 < y) (z : Int) (hz : z = (y : Int)) (hv : a.eval v = .int .i64 z)
    (hK : ∀ w', OwnS w' b (n + 1) (fun q => if q = p.data.toList then y else M q) → w.grownBy w' (some b) → wpList Tryz.prog ops Q rest (a.put o.dst undef) w') : wpList Tryz.prog ops Q (o :: rest) a w := by
  subst hz
  obtain ⟨D, h, k⟩ := hown
  refine wpList_plain hg fun K' hK' => ?_
  obtain ⟨w', hrun, r1, r2⟩ := h.update lawS Tryz.underlying86 (by unfold maxLen; omega) (litS p hp) (RIn_mk (y : Int))
  unfold Oper.wp
  simp [execOp, hop, hm, hx, hv, hrun, Result.andThen]
  refine hK' _ _ (hK w' ⟨_, r1, fun q => ?_⟩ r2)
  show _ = decide (0 < if q = p.data.toList then y else M q) ∧ _ = DataW.held ((if q = p.data.toList then y else M q : Nat) : Int)
  by_cases hq : q = p.data.toList
  · subst hq
    rw [if_pos rfl, decide_eq_true hy]
    exact ⟨Maps.has_put_same h.isMap (by simp [WideAt.IsKeyLit]) _, Maps.atKey_put_same h.isMap (by simp [WideAt.IsKeyLit]) _ _⟩
  · rw [if_neg hq]
    have hne : (Lit.string q) ≠ Lit.string p.data.toList := fun e => hq (by injection e)
    exact ⟨(Maps.has_put_other hne _).trans (k q).1, (Maps.atKey_put_other hne _ _).trans (k q).2⟩
end
theorem Tryz.sortsA (m : Nat) : AnyZ.SortsIn Tryz.prog Tryz.sortedA_ren Fence.wide m :=
  ⟨fun blk off cap ss W hH hblk hsz => callsIn_wide.2 (AnyM.slices_Sort_string Tryz.sortA blk off cap ss W hH hblk hsz),
   fun p cap W => callsIn_wide.2 (AnyM.slices_Sort_string_none Tryz.sortA p cap W)⟩
theorem keys_memS {H : Type} {es : List (Lit × DataW H)} (hk : ∀ p ∈ es, ∃ x, p.1 = Lit.string x) (x : List UInt8) : x ∈ strKeys (.map es) ↔ Maps.has (.map es) (.string x) = true := by
  rw [Maps.has_eq, List.any_eq_true]
  show x ∈ (es.map fun p => strOf p.1) ↔ _
  rw [List.mem_map]
  constructor
  · rintro ⟨p, hp, rfl⟩
    obtain ⟨a, ha⟩ := hk p hp
    refine ⟨p, hp, ?_⟩
    rw [ha]
    simp [Lit.sameKey, strOf]
  · rintro ⟨p, hp, hs⟩
    obtain ⟨a, ha⟩ := hk p hp
    refine ⟨p, hp, ?_⟩
    rw [ha] at hs ⊢
    simpa [Lit.sameKey, strOf] using hs
theorem keys_nodupS {H : Type} {es : List (Lit × DataW H)} (hp : es.Pairwise (fun p q => p.1 ≠ q.1)) (hk : ∀ p ∈ es, ∃ x, p.1 = Lit.string x) : (strKeys (.map es)).Nodup := by
  show (es.map fun p => strOf p.1).Nodup
  refine List.pairwise_map.2 (hp.imp_of_mem fun {p q} h1 h2 hne e => hne ?_)
  obtain ⟨a, ha⟩ := hk p h1
  obtain ⟨c, hc⟩ := hk q h2
  rw [ha, hc] at e ⊢
  exact congrArg _ e
theorem sorted_ltS {ss : List (List UInt8)} (h : ss.Nodup) : (ss.mergeSort (fun x y => decide (x ≤ y))).Pairwise (· < ·) := by
  have h1 : (ss.mergeSort fun x y => decide (x ≤ y)).Pairwise (· ≤ ·) := by
    have h := List.pairwise_mergeSort (le := fun (x y : List UInt8) => decide (x ≤ y)) (fun a b c h1 h2 => decide_eq_true (List.le_trans (of_decide_eq_true h1) (of_decide_eq_true h2))) (fun a b => by rcases List.le_total a b with h | h <;> simp [h]) ss
    exact h.imp (fun h => of_decide_eq_true h)
  have h2 : (ss.mergeSort (fun x y => decide (x ≤ y))).Nodup := ((List.mergeSort_perm ss _).nodup_iff).2 h
  exact (h1.and h2).imp fun {a b} hab => lt_of hab.1 (Ne.symm hab.2)
theorem keysS_any (b : Nat) (w : World) : Calls Tryz.prog 55 #[.map (some b)] w fun e' w' => e' = .returned (.func (.func 89) #[] #[.pointer (some ⟨w.heap.size, 0, none⟩)]) ∧ w' = (w.alloc (.cells #[.map (some b)] 86)) :=
  callsIn_wide.1 (AnyZ.keys_in Tryz.keysA Fence.wide 5 trivial rfl (some b) w)
theorem sortedS_any (b n : Nat) (M : List UInt8 → Nat) (w : World) (hown : OwnS w b n M) (hn : n ≤ 1000000) :
    Calls Tryz.prog 54 #[.func (.func 89) #[] #[.pointer (some ⟨w.heap.size, 0, none⟩)]] (w.alloc (.cells #[.map (some b)] 86)) fun e' w' => ∃ (v : Value) (ks : List (List UInt8)), e' = .returned v ∧ Hid (ks.Pairwise (· < ·) ∧ (∀ p, p ∈ ks ↔ 0 < M p) ∧ ks.length ≤ n ∧ ∀ p ∈ ks, p.length ≤ maxLen) ∧
      w'.ownsRow (w.alloc (.cells #[.map (some b)] 86)).heap.size 9 1 v ks.length (ks.map encStr) ∧ Below (w.alloc (.cells #[.map (some b)] 86)).heap.size (w.alloc (.cells #[.map (some b)] 86)) w' := by
  obtain ⟨D, hD, hM⟩ := hown
  obtain ⟨es, hes, hpw, _⟩ := hD.entries lawS
  obtain ⟨es', hes', hko⟩ := hD.keysOf
  obtain rfl : es = es' := by rw [hes] at hes'; simpa using hes'
  have hk : ∀ p ∈ es, ∃ x, p.1 = Lit.string x := fun p hp => by
    obtain ⟨v, hv⟩ := hko p hp
    obtain ⟨x, _, hx, _⟩ := Maps.keyOf_str Tryz.underlying9 hv
    exact ⟨x, hx⟩
  have hwf := strKeys_le hD Tryz.underlying9
  have hsz := hD.size_le
  have hbl := hD.lt
  have hseq : SeqGives Fence.wide 2 Tryz.prog 89 #[.pointer (some ⟨w.heap.size, 0, none⟩)] encStr (fun ss => ss.Perm (strKeys D)) (Maps.size D) (w.alloc (.cells #[.map (some b)] 86)) :=
    AnyZ.keys_gives (ρ := Tryz.keysA_ren) { Tryz.keysA with } Fence.wide _ trivial rfl (by omega) w.heap.size b n D _ (by simp) (by simp) (by
      obtain ⟨es, clock, hb, Ft, hs, hD⟩ := hD
      exact ⟨es, clock, (Below.heap_alloc _ _ b hbl).trans hb, Ft, hs, hD⟩)
  have cS := AnyZ.sorted_in Tryz.sortedA Fence.wide 5 trivial trivial trivial trivial rfl (by omega) (Tryz.sortsA _) (enters_of Tryz.func57 (by kernel_rfl) rfl) 89 #[.pointer (some ⟨w.heap.size, 0, none⟩)] trivial (enters_of Tryz.func89 (by kernel_rfl) rfl) _ _ (by unfold maxLen; omega) (by omega) _ hseq
  refine (callsIn_wide.1 cS).mono ?_
  rintro e' w' ⟨v, ss, rfl, hS, hrow, _, hb⟩
  have hlen : (ss.mergeSort (fun x y => decide (x ≤ y))).length = ss.length := List.length_mergeSort ss
  subst hes
  have hmem : ∀ p, p ∈ ss.mergeSort (fun x y => decide (x ≤ y)) ↔ p ∈ strKeys (.map es) := fun p => ((List.mergeSort_perm ss _).mem_iff).trans hS.mem_iff
  refine ⟨v, ss.mergeSort (fun x y => decide (x ≤ y)), rfl, Lib.hid ⟨sorted_ltS ((hS.nodup_iff).2 (keys_nodupS hpw hk)), fun p => ?_, ?_, fun p hp => hwf p ((hmem p).1 hp)⟩, ?_, hb⟩
  · rw [hmem p, keys_memS hk, (hM p).1, decide_eq_true_iff]
  · rw [hlen, hS.length_eq]
    show (es.map _).length ≤ n
    rw [List.length_map]
    exact hsz
  · rw [hlen]
    exact hrow
end Go.Proofs.YteokeghenjobaaaGreatDoor
namespace Go.Proofs.YteokeghenjobaaaGreatDoor
open Go.ChangeShapes Go.WideShapes Go.ChangeAt Go.RowKit
attribute [local go_sem ↓] Go.wp_at_zero Go.wp_at_succ
attribute [local go_sem] Oper.semAt_some
theorem OwnS.mono {w : World} {b n m : Nat} {M : List UInt8 → Nat} (h : OwnS w b n M) (hn : n ≤ m) : OwnS w b m M := by
  obtain ⟨D, h, k⟩ := h
  exact ⟨D, h.mono hn, k⟩
def cntT (l : List ByteArray) (x : List UInt8) : Nat := l.countP fun y => decide (y.data.toList = x)
theorem cntT_snoc (l : List ByteArray) (y : ByteArray) : cntT (l ++ [y]) = fun q => if q = y.data.toList then cntT l y.data.toList + 1 else cntT l q := by
  funext q
  unfold cntT
  rw [List.countP_append]
  by_cases h : q = y.data.toList
  · subst h
    simp
  · rw [if_neg h]
    have : ¬ y.data.toList = q := fun e => h e.symm
    simp [this]
theorem cntT_le (l : List ByteArray) (x : List UInt8) : cntT l x ≤ l.length := List.countP_le_length
theorem cntT_pos (l : List ByteArray) (x : List UInt8) : 0 < cntT l x ↔ bOf x ∈ l := by
  unfold cntT
  rw [List.countP_pos_iff]
  constructor
  · rintro ⟨y, hy, h⟩
    have e := of_decide_eq_true h
    have : bOf x = y := data_inj (by rw [bOf_l, e])
    rw [this]
    exact hy
  · intro h
    exact ⟨_, h, decide_eq_true (bOf_l x)⟩
def tagsA (s : Sf) : List ByteArray := s.ts.flatMap fun n => n.tg
def tagIt (s : Sf) (x : List UInt8) : It := ⟨(cntT (tagsA s) x : Int), bOf x⟩
theorem tagsFrom_all : ∀ (l pr : List ByteArray), tagsFrom pr l = true → ∀ t ∈ l, mayN t = true
  | [], _, _, t, ht => by simp at ht
  | x :: l, pr, h, t, ht => by
    unfold tagsFrom at h
    simp only [Bool.and_eq_true] at h
    rcases List.mem_cons.1 ht with rfl | ht
    · exact h.1
    · exact tagsFrom_all l [x] h.2.2 t ht
theorem MayF.tags {s : Sf} (h : MayF s) {n : Nt} (hn : n ∈ s.ts) : ∀ t ∈ n.tg, mayN t = true := by
  have := (h.ts n hn).2.2
  unfold mayNt at this
  simp only [Bool.and_eq_true] at this
  have h2 := this.2.2.2
  unfold mayTg at h2
  simp only [Bool.and_eq_true] at h2
  exact tagsFrom_all _ _ h2.2
theorem flatTake_len {s : Sf} (h : MayF s) (k : Nat) : ((s.ts.take k).flatMap fun n => n.tg).length ≤ 4 * k := by
  have gen : ∀ l : List Nt, (∀ n ∈ l, n.tg.length ≤ 4) → (l.flatMap fun n => n.tg).length ≤ 4 * l.length := by
    intro l
    induction l with
    | nil => intro _; simp
    | cons n l ih =>
      intro hl
      rw [List.flatMap_cons, List.length_append, List.length_cons]
      have h1 := hl n (by simp)
      have h2 := ih (fun m hm => hl m (by simp [hm]))
      omega
  have := gen (s.ts.take k) (fun n hn => (h.note (List.mem_of_mem_take hn)).1)
  rw [List.length_take] at this
  omega
theorem tags_any (s : Sf) (v : Value) (w : World) (hS : ShR w w.heap.size v s) (hT : Tabs w) (hM : mayS s = true) :
    Calls Tryz.prog 16 #[v] w fun e' w' => ∃ (A : Option Addr) (c : Nat) (ks : List (List UInt8)), e' = .returned (.slice A ks.length c) ∧ ks.Pairwise (· < ·) ∧ (∀ p, p ∈ ks ↔ bOf p ∈ tagsA s) ∧ w'.ownsRow w.heap.size 50 2 (.slice A ks.length c) ks.length ((ks.map (tagIt s)).map itC).flatten ∧ Below w.heap.size w w' := by
  have hF := mayF_of hM
  have hS0 := hS
  obtain ⟨Ab, cb, An, cn, rfl, hB, hN, hcb, hmb, hcn, hmn⟩ := hS.ex
  clear hS
  obtain ⟨n, hn⟩ : ∃ n, s.ts.length = n := ⟨_, rfl⟩
  obtain ⟨bn, hbn⟩ : ∃ n, s.bs.length = n := ⟨_, rfl⟩
  have HB : Below w.heap.size w (w.alloc (.cells #[.int .i64 s.nb, .int .i64 s.nn, .int .i64 s.ns, .slice Ab s.bs.length cb, .slice An s.ts.length cn] 25)) := ((Below.refl w.heap.size w).alloc (by first | (simp; done) | (simp; omega)) _)
  have B1 : Blk (w.alloc (.cells #[.int .i64 s.nb, .int .i64 s.nn, .int .i64 s.ns, .slice Ab s.bs.length cb, .slice An s.ts.length cn] 25)) w.heap.size 25 #[.int .i64 s.nb, .int .i64 s.nn, .int .i64 s.ns, .slice Ab s.bs.length cb, .slice An s.ts.length cn] := Blk.new_ w 25 #[.int .i64 s.nb, .int .i64 s.nn, .int .i64 s.ns, .slice Ab s.bs.length cb, .slice An s.ts.length cn]
  have S1 : ShR (w.alloc (.cells #[.int .i64 s.nb, .int .i64 s.nn, .int .i64 s.ns, .slice Ab s.bs.length cb, .slice An s.ts.length cn] 25)) ((w.alloc (.cells #[.int .i64 s.nb, .int .i64 s.nn, .int .i64 s.ns, .slice Ab s.bs.length cb, .slice An s.ts.length cn] 25))).heap.size (.agg #[.int .i64 s.nb, .int .i64 s.nn, .int .i64 s.ns, .slice Ab s.bs.length cb, .slice An s.ts.length cn]) s := hS0.next HB
  have T1 := hT.next HB
  obtain ⟨es, hel, hse, hnt⟩ := hN.ex
  simp only [hn, hbn] at HB B1 S1 T1 hel ⊢
  have hn12 : n ≤ 12 := by have := hF.tl; omega
  have HEL := Lib.hid hel
  have HN := Lib.hid hn
  have HM := Lib.hid hM
  have HFF := Lib.hid hF
  clear hM hn hbn hS0 hT hel hB hF
  have hmm := @run_makeMap Tryz.prog
  go_enter Tryz.func16, Tryz.ntmps16
  go_upto_region 5 with (go_at_call 28; ((with_reducible refine (smay_any s _ _ S1 T1 _ HM.out).mono ?_); rintro e' w3 ⟨rfl, b3⟩; have T1 := T1.next b3; have S1 := S1.next b3; have B1 := B1.below b3 B1.lt; have HB := btr HB HB.size b3; (try clear k0 k1 k2 k3 k4); have k0 := B1.cell_ 0; have k1 := B1.cell_ 1; have k2 := B1.cell_ 2; have k3 := B1.cell_ 3; have k4 := B1.cell_ 4; simp at k0 k1 k2 k3 k4; clear b3; have B1m := B1.alloc_ (.map #[] 0); have m4 := B1m.cell_ 4; simp at m4))
  clear hmm
  have HM0 := OwnS.made w3
  have hal : Below w3.heap.size w3 (w3.alloc (.map #[] 0)) := (Below.refl _ _).alloc (Nat.le_refl _) _
  have HBQ := HB
  have hw3 := HBQ.size
  clear HB B1 S1 T1 k0 k1 k2 k3 k4 m4 B1m
  go_loopw [18] (fun i wr => ∃ k : Nat, k ≤ n ∧ i = .int .i64 k ∧ OwnS wr w3.heap.size (4 * k) (cntT ((s.ts.take k).flatMap fun n => n.tg)) ∧ Below w3.heap.size w3 wr) (fun i _ => n - (intOf i).toNat)
  case atStart => exact ⟨0, by omega, rfl, HM0, hal⟩
  case round =>
    clear HM0 hal
    obtain ⟨k, hk, rfl, hO, HBr⟩ := hrel
    have hgl := hO.lt
    by_cases hlt : k < n
    · have hlx : k < s.ts.length := by have := HN.out; omega
      have i0 : (0 : Int) ≤ (k : Int) := by omega
      have i1 : (k : Int) < (n : Int) := by omega
      obtain ⟨y, hx⟩ : ∃ y, s.ts[k]? = some y := ⟨_, List.getElem?_eq_getElem hlx⟩
      have hmem := List.mem_of_getElem? hx
      have hsm := (HFF.out.note hmem).1
      obtain ⟨e0, he⟩ : ∃ e, es[k]? = some e := ⟨_, List.getElem?_eq_getElem (by have := HEL.out; omega)⟩
      obtain ⟨At, ct, As, cs, rfl, hyt, -⟩ := (hnt k y e0 hx he).ex
      obtain ⟨b1, o1, rfl, l1, q1⟩ := hse.at_ (by have := HEL.out; omega)
      have HBw := btr HBQ HBQ.size HBr
      have y0 : wr.cell? ⟨b1, o1 + k * 5 + 0, none⟩ = some (.int .i64 y.id) := (HBw.cell (p := ⟨b1, _, none⟩) l1).trans (q1 k _ he 0 _ rfl)
      have y1 : wr.cell? ⟨b1, o1 + k * 5 + 1, none⟩ = some (.int .i64 y.bk) := (HBw.cell (p := ⟨b1, _, none⟩) l1).trans (q1 k _ he 1 _ rfl)
      have y2 : wr.cell? ⟨b1, o1 + k * 5 + 2, none⟩ = some (.string y.nm) := (HBw.cell (p := ⟨b1, _, none⟩) l1).trans (q1 k _ he 2 _ rfl)
      have y3 : wr.cell? ⟨b1, o1 + k * 5 + 3, none⟩ = some (.slice At y.tg.length ct) := (HBw.cell (p := ⟨b1, _, none⟩) l1).trans (q1 k _ he 3 _ rfl)
      have y4 : wr.cell? ⟨b1, o1 + k * 5 + 4, none⟩ = some (.slice As y.sh.length cs) := (HBw.cell (p := ⟨b1, _, none⟩) l1).trans (q1 k _ he 4 _ rfl)
      simp only [Nat.add_zero] at y0
      obtain ⟨yt, hyt2⟩ : ∃ n, y.tg.length = n := ⟨_, rfl⟩
      obtain ⟨ys, hys⟩ : ∃ n, y.sh.length = n := ⟨_, rfl⟩
      have HTK : Hid ((s.ts.take (k + 1)).flatMap (fun n => n.tg) = (s.ts.take k).flatMap (fun n => n.tg) ++ y.tg) := Lib.hid (by rw [List.take_add_one, hx, List.flatMap_append]; simp)
      have HTG := Lib.hid (HFF.out.tags hmem)
      have HLP := Lib.hid (flatTake_len HFF.out k)
      rw [hyt2] at y3 hsm
      rw [hys] at y4
      have HYT := Lib.hid hyt2
      obtain ⟨P, hP⟩ : ∃ P, (s.ts.take k).flatMap (fun n => n.tg) = P := ⟨_, rfl⟩
      rw [hP] at hO HTK HLP
      clear hx he q1 hmem hys hyt2 hP hlx
      go_upto_region 8 with fail
      obtain ⟨W, hW⟩ : ∃ V, V = wr.alloc (.cells #[.int .i64 y.id, .int .i64 y.bk, .string y.nm, .slice At yt ct, .slice As ys cs] 54) := ⟨_, rfl⟩
      have hal : Below wr.heap.size wr W := by rw [hW]; exact (Below.refl _ wr).alloc (Nat.le_refl _) _
      have hOW := hO.below hal
      have HBW := HBr.trans (hal.mono HBr.size)
      have hytW := (hyt.below (btr HBQ HBQ.size HBW)).mono_ (btr HBQ HBQ.size HBW).size
      rw [← hW]
      clear hW y0 y1 y2 y3 y4 hO HBr HBw hal hgl
      go_loopw [25] (fun i wx => ∃ j : Nat, j ≤ yt ∧ i = .int .i64 j ∧ OwnS wx w3.heap.size (4 * k + j) (cntT (P ++ y.tg.take j)) ∧ Below w3.heap.size w3 wx) (fun i _ => yt - (intOf i).toNat)
      case atStart => exact ⟨0, by omega, rfl, by rw [List.take_zero, List.append_nil]; exact hOW, HBW⟩
      case round =>
        clear hOW HBW
        obtain ⟨j, hj, rfl, hO, HBr⟩ := hrel
        have hgl := hO.lt
        by_cases hlt2 : j < yt
        · have j0 : (0 : Int) ≤ (j : Int) := by omega
          have j1 : (j : Int) < (yt : Int) := by omega
          have HBw := btr HBQ HBQ.size HBr
          obtain ⟨b2, o2, rfl, l2, q2⟩ := hyt.at_ (by rw [List.length_map]; have := HYT.out; omega)
          obtain ⟨z, hz⟩ : ∃ z, y.tg[j]? = some z := ⟨_, List.getElem?_eq_getElem (by have := HYT.out; omega)⟩
          have cz : wr.cell? ⟨b2, o2 + j, none⟩ = some (.string z) := (HBw.cell (p := ⟨b2, _, none⟩) l2).trans (q2 j _ (by rw [List.getElem?_map, hz]; rfl))
          have hzs : z.size ≤ maxLen := by have := mayN_len (HTG.out z (List.mem_of_getElem? hz)); unfold maxLen; omega
          obtain ⟨m, hm⟩ : ∃ m, cntT (P ++ y.tg.take j) z.data.toList = m := ⟨_, rfl⟩
          have hmb : m ≤ 1000 := by
            rw [← hm]
            have h1 := cntT_le (P ++ y.tg.take j) z.data.toList
            rw [List.length_append, List.length_take] at h1
            have h2 := HLP.out
            omega
          have HCN : Hid (cntT (P ++ y.tg.take (j + 1)) = fun q => if q = z.data.toList then m + 1 else cntT (P ++ y.tg.take j) q) := Lib.hid (by
            rw [List.take_add_one, hz]
            show cntT (P ++ (y.tg.take j ++ [z])) = _
            rw [← List.append_assoc, cntT_snoc, hm])
          have hmw : (m : Int) + 1 = ((m + 1 : Nat) : Int) := by omega
          have HMW := Lib.hid hmw
          have HM2 := Lib.hid hm
          clear hz q2 hm hmw
          go_wp2_with (first | (at_lookup; refine wpList_lookS _ rfl (.tmp 29) (.tmp 30) rfl w3.heap.size (4 * k + j) _ rfl hO z rfl hzs m HM2.out ?_) | (at_mapUpdate; refine wpList_putS _ rfl _ _ _ rfl w3.heap.size (4 * k + j) _ rfl hO (by omega) z rfl hzs (m + 1) (by omega) _ HMW.out rfl ?_; intro w4 ho4 hg4))
          rw [← HCN.out] at ho4
          have HF : Below w3.heap.size w3 w4 := HBr.grown hg4 HBr.size (fun j hj => by have := Option.some.inj hj; omega)
          clear hO hg4 cz
          go_roundw
          case rel => exact ⟨j + 1, by omega, by go_num, ho4, HF⟩
          case measure => simp [intOf]; omega
        · have hjn : j = yt := by omega
          subst hjn
          rw [List.take_of_length_le (by rw [HYT.out]; exact Nat.le_refl _)] at hO
          rw [← HTK.out] at hO
          go_wp2_with fail
          go_roundw
          case rel => exact ⟨k + 1, by omega, by go_num, hO.mono (by omega), HBr⟩
          case measure => simp [intOf]; omega
    · have hjn : k = n := by omega
      subst hjn
      rw [List.take_of_length_le (by rw [HN.out]; exact Nat.le_refl _)] at hO
      clear hlt hnt hse
      have HKA := Lib.hid (keysS_any w3.heap.size wr)
      have HSA := Lib.hid (sortedS_any w3.heap.size (4 * k) (cntT (tagsA s)) wr hO (by omega))
      have hal : Below wr.heap.size wr (wr.alloc (.cells #[.map (some w3.heap.size)] 86)) := (Below.refl _ wr).alloc (Nat.le_refl _) _
      have hOa := hO.below hal
      have HBa := HBr.trans (hal.mono HBr.size)
      have hsa : w3.heap.size ≤ (wr.alloc (.cells #[.map (some w3.heap.size)] 86)).heap.size := HBa.size
      clear hO HBr hgl
      go_upto_region 15 with (first | (go_at_call 55; ((with_reducible refine HKA.out.mono ?_); rintro e' w5 ⟨rfl, rfl⟩)) | (go_at_call 54; ((with_reducible refine HSA.out.mono ?_); rintro e' w6 ⟨v6, ks, rfl, HK, hrow, hb6⟩; obtain ⟨A6, c6, rfl, hc6, hm6⟩ := own_shape hrow)))
      have hO6 := hOa.below hb6
      have hKS := Sl.of_own hrow
      obtain ⟨m, hm⟩ : ∃ m, ks.length = m := ⟨_, rfl⟩
      have hm48 : m ≤ 48 := by have := HK.out.2.2.1; omega
      rw [hm]
      have HMK := Lib.hid hm
      have HB6 := btr (HBQ.trans (HBa.mono hw3)) (HBQ.trans (HBa.mono hw3)).size hb6
      have hw6 := HB6.size
      clear hm hrow hb6 hOa hc6 hm6 HBa hal
      go_loopw [8, 39] (fun sv i wr => ∃ j : Nat, j ≤ m ∧ i = .int .i64 j ∧ Hid (RowI wr w6.heap.size sv ((ks.take j).map (tagIt s))) ∧ Below w6.heap.size w6 wr) (fun _ i _ => m - (intOf i).toNat)
      case atStart => exact ⟨0, by omega, rfl, Lib.hid (World.ownsRow_nil _ _ _ _), Below.refl _ _⟩
      case round =>
        obtain ⟨j, hj, rfl, HR, HBr⟩ := hrel
        have hsz := HBr.size
        by_cases hlt : j < m
        · have hlx : j < ks.length := by have := HMK.out; omega
          have i0 : (0 : Int) ≤ (j : Int) := by omega
          have i1 : (j : Int) < (m : Int) := by omega
          obtain ⟨y, hx⟩ : ∃ y, ks[j]? = some y := ⟨_, List.getElem?_eq_getElem hlx⟩
          obtain ⟨b1, o1, rfl, l1, q1⟩ := hKS.at_ (by rw [List.length_map]; omega)
          have y0 : wr.cell? ⟨b1, o1 + j, none⟩ = some (.string (bOf y)) := (HBr.cell (p := ⟨b1, _, none⟩) l1).trans (q1 j _ (by rw [List.getElem?_map, hx]; rfl))
          have hys : (bOf y).size ≤ maxLen := by rw [bOf_size]; exact HK.out.2.2.2 y (List.mem_of_getElem? hx)
          have hor := hO6.below HBr
          obtain ⟨L, hL⟩ : ∃ L, (ks.take j).map (tagIt s) = L := ⟨_, rfl⟩
          have hL6 : L.length ≤ 48 := by
            rw [← hL, List.length_map, List.length_take]
            omega
          rw [hL] at HR
          have HLN : Hid ((ks.take (j + 1)).map (tagIt s) = L ++ [tagIt s y]) := Lib.hid (by rw [List.take_add_one, hx, List.map_append, hL]; rfl)
          have hon : wr.ownsRow w6.heap.size 50 2 _ L.length (L.flatMap itC) := HR.out
          obtain ⟨cn, hcn⟩ : ∃ c, cntT (tagsA s) y = c := ⟨_, rfl⟩
          have HCN : Hid (cntT (tagsA s) (bOf y).data.toList = cn) := Lib.hid (by rw [bOf_l, hcn])
          have HTI : Hid (tagIt s y = ⟨(cn : Int), bOf y⟩) := Lib.hid (by unfold tagIt; rw [hcn])
          rw [HTI.out] at HLN
          obtain ⟨Y, hY⟩ : ∃ Y, bOf y = Y := ⟨_, rfl⟩
          rw [hY] at y0 hys HCN HLN
          clear HR hL hx q1 hlx hcn hY HTI
          go_wp2_with (first | (at_lookup; refine wpList_lookS _ rfl (.tmp 44) (.tmp 45) rfl w3.heap.size (4 * k) _ rfl hor Y rfl hys cn HCN.out ?_) | (at_builtin; obtain ⟨ti0, hi, hz0, hz1, hz2⟩ := info_parts infoIt; refine wpList_app _ rfl (.tmp 43) (.tmp 49) _ rfl w6.heap.size 50 ti0 _ 2 24 Tryz.underlying29 hi hz0 hz1 hz2 rfl (by decide) _ L.length (L.flatMap itC) rfl (hon.alloc _) _ 1 _ (itC ⟨(cn : Int), Y⟩) rfl (rd_newI _ ⟨(cn : Int), Y⟩ (by simp)) (one1I _) (by unfold maxLen; omega) (by omega) (by simp; omega) ?_; intro v' w' ho' hg' hv'; clear hi hz0 hz1 hz2))
          have HF : Below w6.heap.size w6 w' := (HBr.alloc HBr.size _).trans (below_app (by omega) (by simp; omega) (hon.alloc _) hg')
          have HR2 : Hid (RowI w' w6.heap.size v' ((ks.take (j + 1)).map (tagIt s))) := Lib.hid (by rw [HLN.out]; exact RowI.snoc ho')
          clear ho' hg' hv' hon y0 hor
          go_roundw
          case rel => exact ⟨j + 1, by omega, by go_num, HR2, HF⟩
          case measure => simp [intOf]; omega
        · have hjn : j = m := by omega
          subst hjn
          rw [List.take_of_length_le (by rw [HMK.out]; exact Nat.le_refl _)] at HR
          have HRo := HR.out
          unfold RowI at HRo
          rw [flat_mapI, List.length_map] at HRo
          obtain ⟨A8, c8, rfl, hc8, hm8⟩ := own_shape HRo
          have HRO := Lib.hid HRo
          clear HRo HR hc8 hm8 hlt
          go_wp2_with fail
          go_ret
          exact ⟨A8, c8, ks, rfl, HK.out.1, fun p => (HK.out.2.1 p).trans (cntT_pos _ _), own_base HRO.out hw6, HB6.trans (HBr.mono hw6)⟩
end Go.Proofs.YteokeghenjobaaaGreatDoor
namespace Go.Proofs.YteokeghenjobaaaGreatDoor
open Go.ChangeShapes Go.WideShapes Go.ChangeAt Go.RowKit
attribute [local go_sem ↓] Go.wp_at_zero Go.wp_at_succ
def sA : ByteArray := ⟨#[97]⟩
def sB : ByteArray := ⟨#[98]⟩
def sf0 : Sf := ⟨1, 1, 1, [], []⟩
def sf1 : Sf := makeS sf0 sB
def sf2 : Sf := makeS sf1 sA
theorem ShR.zero (w : World) : ShR w w.heap.size (.agg #[.int .i64 1, .int .i64 1, .int .i64 1, .slice none 0 0, .slice none 0 0]) sf0 := ⟨none, 0, none, 0, rfl, Or.inl rfl, ⟨[], rfl, Or.inl rfl, fun k n e h => by simp [sf0] at h⟩, by decide, by decide, by decide, by decide⟩
end Go.Proofs.YteokeghenjobaaaGreatDoor
namespace Go.Proofs.YteokeghenjobaaaGreatDoor
open Go.ChangeShapes Go.WideShapes Go.ChangeAt Go.RowKit
attribute [local go_sem ↓] Go.wp_at_zero Go.wp_at_succ
structure DInv {α : Type} (ps : List (α × List Value)) (p : α → Bool) (i j : Nat) (qs : List (α × List Value)) : Prop where
  len : qs.length = ps.length
  tk : qs.take i = (ps.take j).filter (fun x => !p x.1)
  il : i = ((ps.take j).filter (fun x => !p x.1)).length
  dr : qs.drop j = ps.drop j
  lt : i < j
  le : j ≤ ps.length
theorem DInv.get {α : Type} {ps qs : List (α × List Value)} {p : α → Bool} {i j : Nat} (h : DInv ps p i j qs) {x : α × List Value} (hx : ps[j]? = some x) : qs[j]? = some x := by
  have h1 : (qs.drop j)[0]? = (ps.drop j)[0]? := by rw [h.dr]
  rw [List.getElem?_drop, List.getElem?_drop] at h1
  simpa [hx] using h1
theorem DInv.keep {α : Type} {ps qs : List (α × List Value)} {p : α → Bool} {i j : Nat} (h : DInv ps p i j qs) {x : α × List Value} (hx : ps[j]? = some x) (hp : p x.1 = false) : DInv ps p (i + 1) (j + 1) (qs.set i x) := by
  have hlt := (List.getElem?_eq_some_iff.1 hx).1
  have hl := h.len
  have hij := h.lt
  have h1 : (ps.take (j + 1)).filter (fun x => !p x.1) = (ps.take j).filter (fun x => !p x.1) ++ [x] := filter_yes hx (by simp [hp])
  refine ⟨by rw [List.length_set]; exact hl, ?_, by rw [h1, List.length_append, ← h.il]; rfl, ?_, by omega, by omega⟩
  · rw [h1, ← h.tk, List.take_add_one, List.getElem?_set]
    rw [if_pos rfl, if_pos (by omega), List.take_set_of_le (Nat.le_refl _)]
    rfl
  · rw [List.drop_set_of_lt (by omega), ← List.drop_drop, h.dr, List.drop_drop]
theorem DInv.skip {α : Type} {ps qs : List (α × List Value)} {p : α → Bool} {i j : Nat} (h : DInv ps p i j qs) {x : α × List Value} (hx : ps[j]? = some x) (hp : p x.1 = true) : DInv ps p i (j + 1) qs := by
  have hlt := (List.getElem?_eq_some_iff.1 hx).1
  have h1 : (ps.take (j + 1)).filter (fun x => !p x.1) = (ps.take j).filter (fun x => !p x.1) := filter_no hx (by simp [hp])
  have := h.lt
  exact ⟨h.len, by rw [h1]; exact h.tk, by rw [h1]; exact h.il, by rw [← List.drop_drop, h.dr, List.drop_drop], by omega, by omega⟩
def st2 (w : World) (g o : Nat) (a0 a1 : Value) : World := World.setCell (World.setCell w ⟨g, o, none⟩ a0) ⟨g, o + 1, none⟩ a1
end Go.Proofs.YteokeghenjobaaaGreatDoor
namespace Go.Proofs.YteokeghenjobaaaGreatDoor
open Go.ChangeShapes Go.WideShapes Go.ChangeAt Go.RowKit
attribute [local go_sem ↓] Go.wp_at_zero Go.wp_at_succ
end Go.Proofs.YteokeghenjobaaaGreatDoor
namespace Go.Proofs.YteokeghenjobaaaGreatDoor
open Go.ChangeShapes Go.WideShapes Go.ChangeAt Go.RowKit
attribute [local go_sem ↓] Go.wp_at_zero Go.wp_at_succ
def dropC (s : Sf) (x : Int) : Int := cond (mayS s) (cond (decide (bookAt s x < 0)) 4 0) 2
def dropS (s : Sf) (x : Int) : Sf := { s with bs := s.bs.filter (fun b => !(b.id == x)), ts := s.ts.filter (fun n => !(n.bk == x)) }
def discC (s : Sf) (x : Int) : Int := cond (mayS s) (cond (decide (noteAt s x < 0)) 4 0) 2
def discS (s : Sf) (x : Int) : Sf := { s with ts := s.ts.filter (fun n => !(n.id == x)) }
end Go.Proofs.YteokeghenjobaaaGreatDoor
namespace Go.Proofs.YteokeghenjobaaaGreatDoor
open Go.ChangeShapes Go.WideShapes Go.ChangeAt Go.RowKit
attribute [local go_sem ↓] Go.wp_at_zero Go.wp_at_succ
theorem below_dr (w : World) : Below w.heap.size w w.drew := below_dn (Below.refl w.heap.size w) 1
theorem sameTexts_yes (L : List ByteArray) (A B : Option Addr) (c d : Nat) (w : World) (n1 : L.length ≤ 1000000) (h1 : Sl w w.heap.size A (L.map strV)) (h2 : Sl w w.heap.size B (L.map strV)) : Calls Tryz.prog 21 #[.slice A L.length c, .slice B L.length d] w fun e' w' => e' = .returned (.bool true) ∧ Below w.heap.size w w' := by
  obtain ⟨n, hn⟩ : ∃ n, L.length = n := ⟨_, rfl⟩
  rw [hn] at n1 ⊢
  have HN := Lib.hid hn
  have H1 := Lib.hid h1
  have H2 := Lib.hid h2
  clear hn h1 h2
  go_enter Tryz.func21, Tryz.ntmps21
  go_wp2_with fail
  go_loopw [5] (fun s5 wr => ∃ k : Nat, k ≤ n ∧ s5 = .int .i64 (k : Int) ∧ Below w.heap.size w wr) (fun s5 _ => n - (intOf s5).toNat)
  case atStart => exact ⟨0, Nat.zero_le _, rfl, Below.refl _ _⟩
  case round =>
    obtain ⟨k, hk, rfl, hB⟩ := hrel
    by_cases hlt : k < n
    · have hlx : k < L.length := by have := HN.out; omega
      obtain ⟨b1, o1, rfl, l1, q1⟩ := (Sl.below H1.out hB).at_ (by rw [List.length_map]; omega)
      obtain ⟨b2, o2, rfl, l2, q2⟩ := (Sl.below H2.out hB).at_ (by rw [List.length_map]; omega)
      obtain ⟨x, hx⟩ : ∃ x, L[k]? = some x := ⟨_, List.getElem?_eq_getElem hlx⟩
      have x0 := q1 k (.string x) (by rw [List.getElem?_map, hx]; rfl)
      have y0 := q2 k (.string x) (by rw [List.getElem?_map, hx]; rfl)
      have k0 : (0 : Int) ≤ (k : Int) := by omega
      have k1 : (k : Int) < (n : Int) := by omega
      clear hx q1 q2 hlx
      go_upto_region 6 with fail
      refine wp_region_noPanic ?_
      refine wp_region_held_drew (S := (fun w_ => w_.cell? ⟨b1, o1 + k, none⟩ = some (.string x) ∧ w_.cell? ⟨b2, o2 + k, none⟩ = some (.string x))) (by kernel_rfl) ?_ (fun hHeld => ?_)
      · (first | exact ⟨x0, y0⟩ | assumption)
      refine tk 0 ⟨some 17, .move (.tmp 0), 38, "same.go:64", #[], none⟩ ?_; try simp only [Act.put, pz1, pz2, pz3]
      refine tk 1 ⟨some 18, .move (.tmp 5), 3, "same.go:64", #[], none⟩ ?_; try simp only [Act.put, pz1, pz2, pz3]
      refine tk 2 ⟨some 19, .indexAddr 38 (.tmp 17) (.tmp 18), 0, "same.go:64", #[⟨0, .data⟩, ⟨1, .data⟩], none⟩ ?_; try simp only [Act.put, pz1, pz2, pz3]
      refine tk 3 ⟨some 20, .load 9 (.tmp 19), 9, "same.go:64", #[⟨2, .data⟩], none⟩ ?_; try simp only [Act.put, pz1, pz2, pz3]
      refine tk 4 ⟨some 21, .move (.tmp 1), 38, "same.go:64", #[], none⟩ ?_; try simp only [Act.put, pz1, pz2, pz3]
      refine tk 5 ⟨some 22, .move (.tmp 5), 3, "same.go:64", #[], none⟩ ?_; try simp only [Act.put, pz1, pz2, pz3]
      refine tk 6 ⟨some 23, .indexAddr 38 (.tmp 21) (.tmp 22), 0, "same.go:64", #[⟨4, .data⟩, ⟨5, .data⟩], none⟩ ?_; try simp only [Act.put, pz1, pz2, pz3]
      refine tk 7 ⟨some 24, .load 9 (.tmp 23), 9, "same.go:64", #[⟨6, .data⟩], none⟩ ?_; try simp only [Act.put, pz1, pz2, pz3]
      refine tk 8 ⟨some 25, .binOp .neq 9 (.tmp 20) (.tmp 24) 9, 4, "same.go:64", #[⟨3, .data⟩, ⟨7, .data⟩], none⟩ ?_; try simp only [Act.put, pz1, pz2, pz3]
      refine wpAnyH_done (by kernel_rfl) ?_ _
      refine NoPanic.normal ?_
      go_wp2_with fail
      go_roundw
      case rel => exact ⟨k + 1, by omega, by go_num, (by first | exact hB | exact drew_below hB)⟩
      case measure => simp [intOf]; omega
    · obtain rfl : k = n := by omega
      go_wp2_with fail
      go_ret
      exact ⟨rfl, hB⟩
end Go.Proofs.YteokeghenjobaaaGreatDoor
namespace Go.Proofs.YteokeghenjobaaaGreatDoor
open Go.ChangeShapes Go.WideShapes Go.ChangeAt Go.RowKit
attribute [local go_sem ↓] Go.wp_at_zero Go.wp_at_succ
attribute [local go_sem] Oper.semAt_some
theorem own_lit (w : World) (cs : Array Value) (t : TypeId) (C n base : Nat) (hb : base ≤ w.heap.size) (hn : cs.size = n * C) (hm : n ≤ maxLen) : (w.alloc (.cells cs t)).ownsRow base t C (.slice (some ⟨w.heap.size, 0, none⟩) n n) n cs.toList := by
  refine ⟨by rw [Array.length_toList]; exact hn, Or.inr ⟨w.heap.size, n, cs, rfl, hb, heap_alloc_new w _, Nat.le_refl _, hm, hn, ?_⟩⟩
  rw [← hn, ← Array.length_toList, List.take_length]
theorem lit_slE (w : World) (cs : Array Value) (t : TypeId) (C n : Nat) (es : List (List Value)) (h : cs.toList = es.flatten) (hC : ∀ x ∈ es, x.length = C) (hl : es.length = n) (hm : n ≤ maxLen) (h0 : 0 < C) : SlE C (w.alloc (.cells cs t)) (w.alloc (.cells cs t)).heap.size (some ⟨w.heap.size, 0, none⟩) es := by
  have hsz : cs.size = n * C := by rw [← Array.length_toList, h, flat_lenE es hC, hl]
  have ho := own_lit w cs t C n 0 (Nat.zero_le _) hsz hm
  rw [h] at ho
  exact sle_of_own ho hC h0
theorem lit_sl (w : World) (cs : Array Value) (t : TypeId) (n : Nat) (vs : List Value) (h : cs.toList = vs) (hl : vs.length = n) (hm : n ≤ maxLen) : Sl (w.alloc (.cells cs t)) (w.alloc (.cells cs t)).heap.size (some ⟨w.heap.size, 0, none⟩) vs := by
  have hsz : cs.size = n * 1 := by rw [← Array.length_toList, h, hl, Nat.mul_one]
  have ho := own_lit w cs t 1 n 0 (Nat.zero_le _) hsz hm
  rw [h] at ho
  exact Sl.of_own ho
def nX : ByteArray := ⟨#[120]⟩
def nY : ByteArray := ⟨#[121]⟩
def nNot : ByteArray := ⟨#[110, 111, 116]⟩
def nToBe : ByteArray := ⟨#[116, 111, 32, 98, 101]⟩
def nB : ByteArray := ⟨#[98]⟩
def t1N : Nt := ⟨1, 1, nToBe, [nX], []⟩
def t2N : Nt := ⟨2, 1, nNot, [nX, nY], []⟩
def sT : Sf := ⟨2, 3, 1, [⟨1, nB⟩], [t1N, t2N]⟩
theorem mayT : mayS sT = true := by decide +kernel
theorem two_any (w : World) : Calls Tryz.prog 34 #[] w fun e' w' => ∃ v', e' = .returned v' ∧ ShR w' w'.heap.size v' sT ∧ Below w.heap.size w w' := by
  have B2 := Blk.new_ w 25 #[.int .i64 2, .int .i64 3, .int .i64 1, .slice (some ⟨w.heap.size + 1, 0, none⟩) 1 1, .slice (some ⟨w.heap.size + 1 + 1 + 1 + 1, 0, none⟩) 2 2]
  have oB := own_lit (w.alloc (.cells #[.int .i64 2, .int .i64 3, .int .i64 1, .slice (some ⟨w.heap.size + 1, 0, none⟩) 1 1, .slice (some ⟨w.heap.size + 1 + 1 + 1 + 1, 0, none⟩) 2 2] 25)) #[.int .i64 1, .string ⟨#[98]⟩] 60 2 1 (w.heap.size + 1) (by simp) rfl (by decide)
  have o1 := own_lit ((w.alloc (.cells #[.int .i64 2, .int .i64 3, .int .i64 1, .slice (some ⟨w.heap.size + 1, 0, none⟩) 1 1, .slice (some ⟨w.heap.size + 1 + 1 + 1 + 1, 0, none⟩) 2 2] 25)).alloc (.cells #[.int .i64 1, .string ⟨#[98]⟩] 60)) #[.string ⟨#[120]⟩] 9 1 1 (w.heap.size + 1) (by simp) rfl (by decide)
  have o2 := own_lit (((w.alloc (.cells #[.int .i64 2, .int .i64 3, .int .i64 1, .slice (some ⟨w.heap.size + 1, 0, none⟩) 1 1, .slice (some ⟨w.heap.size + 1 + 1 + 1 + 1, 0, none⟩) 2 2] 25)).alloc (.cells #[.int .i64 1, .string ⟨#[98]⟩] 60)).alloc (.cells #[.string ⟨#[120]⟩] 9)) #[.string ⟨#[120]⟩, .string ⟨#[121]⟩] 9 1 2 (w.heap.size + 1) (by first | (simp; done) | (simp; omega)) rfl (by decide)
  have oN := own_lit ((((w.alloc (.cells #[.int .i64 2, .int .i64 3, .int .i64 1, .slice (some ⟨w.heap.size + 1, 0, none⟩) 1 1, .slice (some ⟨w.heap.size + 1 + 1 + 1 + 1, 0, none⟩) 2 2] 25)).alloc (.cells #[.int .i64 1, .string ⟨#[98]⟩] 60)).alloc (.cells #[.string ⟨#[120]⟩] 9)).alloc (.cells #[.string ⟨#[120]⟩, .string ⟨#[121]⟩] 9)) #[.int .i64 1, .int .i64 1, .string ⟨#[116, 111, 32, 98, 101]⟩, .slice (some ⟨w.heap.size + 1 + 1, 0, none⟩) 1 1, .slice none 0 0, .int .i64 2, .int .i64 1, .string ⟨#[110, 111, 116]⟩, .slice (some ⟨w.heap.size + 1 + 1 + 1, 0, none⟩) 2 2, .slice none 0 0] 54 5 2 (w.heap.size + 1) (by first | (simp; done) | (simp; omega)) rfl (by decide)
  simp only [World.size_alloc] at oB o1 o2 oN
  have a1 : Below (((w.alloc (.cells #[.int .i64 2, .int .i64 3, .int .i64 1, .slice (some ⟨w.heap.size + 1, 0, none⟩) 1 1, .slice (some ⟨w.heap.size + 1 + 1 + 1 + 1, 0, none⟩) 2 2] 25)).alloc (.cells #[.int .i64 1, .string ⟨#[98]⟩] 60))).heap.size ((w.alloc (.cells #[.int .i64 2, .int .i64 3, .int .i64 1, .slice (some ⟨w.heap.size + 1, 0, none⟩) 1 1, .slice (some ⟨w.heap.size + 1 + 1 + 1 + 1, 0, none⟩) 2 2] 25)).alloc (.cells #[.int .i64 1, .string ⟨#[98]⟩] 60)) (((w.alloc (.cells #[.int .i64 2, .int .i64 3, .int .i64 1, .slice (some ⟨w.heap.size + 1, 0, none⟩) 1 1, .slice (some ⟨w.heap.size + 1 + 1 + 1 + 1, 0, none⟩) 2 2] 25)).alloc (.cells #[.int .i64 1, .string ⟨#[98]⟩] 60)).alloc (.cells #[.string ⟨#[120]⟩] 9)) := (Below.refl _ _).alloc (Nat.le_refl _) _
  have a2 : Below ((((w.alloc (.cells #[.int .i64 2, .int .i64 3, .int .i64 1, .slice (some ⟨w.heap.size + 1, 0, none⟩) 1 1, .slice (some ⟨w.heap.size + 1 + 1 + 1 + 1, 0, none⟩) 2 2] 25)).alloc (.cells #[.int .i64 1, .string ⟨#[98]⟩] 60)).alloc (.cells #[.string ⟨#[120]⟩] 9))).heap.size (((w.alloc (.cells #[.int .i64 2, .int .i64 3, .int .i64 1, .slice (some ⟨w.heap.size + 1, 0, none⟩) 1 1, .slice (some ⟨w.heap.size + 1 + 1 + 1 + 1, 0, none⟩) 2 2] 25)).alloc (.cells #[.int .i64 1, .string ⟨#[98]⟩] 60)).alloc (.cells #[.string ⟨#[120]⟩] 9)) ((((w.alloc (.cells #[.int .i64 2, .int .i64 3, .int .i64 1, .slice (some ⟨w.heap.size + 1, 0, none⟩) 1 1, .slice (some ⟨w.heap.size + 1 + 1 + 1 + 1, 0, none⟩) 2 2] 25)).alloc (.cells #[.int .i64 1, .string ⟨#[98]⟩] 60)).alloc (.cells #[.string ⟨#[120]⟩] 9)).alloc (.cells #[.string ⟨#[120]⟩, .string ⟨#[121]⟩] 9)) := (Below.refl _ _).alloc (Nat.le_refl _) _
  have a3 : Below (((((w.alloc (.cells #[.int .i64 2, .int .i64 3, .int .i64 1, .slice (some ⟨w.heap.size + 1, 0, none⟩) 1 1, .slice (some ⟨w.heap.size + 1 + 1 + 1 + 1, 0, none⟩) 2 2] 25)).alloc (.cells #[.int .i64 1, .string ⟨#[98]⟩] 60)).alloc (.cells #[.string ⟨#[120]⟩] 9)).alloc (.cells #[.string ⟨#[120]⟩, .string ⟨#[121]⟩] 9))).heap.size ((((w.alloc (.cells #[.int .i64 2, .int .i64 3, .int .i64 1, .slice (some ⟨w.heap.size + 1, 0, none⟩) 1 1, .slice (some ⟨w.heap.size + 1 + 1 + 1 + 1, 0, none⟩) 2 2] 25)).alloc (.cells #[.int .i64 1, .string ⟨#[98]⟩] 60)).alloc (.cells #[.string ⟨#[120]⟩] 9)).alloc (.cells #[.string ⟨#[120]⟩, .string ⟨#[121]⟩] 9)) (((((w.alloc (.cells #[.int .i64 2, .int .i64 3, .int .i64 1, .slice (some ⟨w.heap.size + 1, 0, none⟩) 1 1, .slice (some ⟨w.heap.size + 1 + 1 + 1 + 1, 0, none⟩) 2 2] 25)).alloc (.cells #[.int .i64 1, .string ⟨#[98]⟩] 60)).alloc (.cells #[.string ⟨#[120]⟩] 9)).alloc (.cells #[.string ⟨#[120]⟩, .string ⟨#[121]⟩] 9)).alloc (.cells #[.int .i64 1, .int .i64 1, .string ⟨#[116, 111, 32, 98, 101]⟩, .slice (some ⟨w.heap.size + 1 + 1, 0, none⟩) 1 1, .slice none 0 0, .int .i64 2, .int .i64 1, .string ⟨#[110, 111, 116]⟩, .slice (some ⟨w.heap.size + 1 + 1 + 1, 0, none⟩) 2 2, .slice none 0 0] 54)) := (Below.refl _ _).alloc (Nat.le_refl _) _
  have HBE : Below w.heap.size w (((((w.alloc (.cells #[.int .i64 2, .int .i64 3, .int .i64 1, .slice (some ⟨w.heap.size + 1, 0, none⟩) 1 1, .slice (some ⟨w.heap.size + 1 + 1 + 1 + 1, 0, none⟩) 2 2] 25)).alloc (.cells #[.int .i64 1, .string ⟨#[98]⟩] 60)).alloc (.cells #[.string ⟨#[120]⟩] 9)).alloc (.cells #[.string ⟨#[120]⟩, .string ⟨#[121]⟩] 9)).alloc (.cells #[.int .i64 1, .int .i64 1, .string ⟨#[116, 111, 32, 98, 101]⟩, .slice (some ⟨w.heap.size + 1 + 1, 0, none⟩) 1 1, .slice none 0 0, .int .i64 2, .int .i64 1, .string ⟨#[110, 111, 116]⟩, .slice (some ⟨w.heap.size + 1 + 1 + 1, 0, none⟩) 2 2, .slice none 0 0] 54)) := ((((((Below.refl _ w).alloc (Nat.le_refl _) _).alloc (by simp) _).alloc (by first | (simp; done) | (simp; omega)) _).alloc (by first | (simp; done) | (simp; omega)) _).alloc (by first | (simp; done) | (simp; omega)) _)
  have oBE := own_belowW (own_belowW (own_belowW oB a1) a2) a3
  have o1E := own_belowW (own_belowW o1 a2) a3
  have o2E := own_belowW o2 a3
  have B2E := (((B2.alloc_ (.cells #[.int .i64 1, .string ⟨#[98]⟩] 60)).alloc_ (.cells #[.string ⟨#[120]⟩] 9)).alloc_ (.cells #[.string ⟨#[120]⟩, .string ⟨#[121]⟩] 9)).alloc_ (.cells #[.int .i64 1, .int .i64 1, .string ⟨#[116, 111, 32, 98, 101]⟩, .slice (some ⟨w.heap.size + 1 + 1, 0, none⟩) 1 1, .slice none 0 0, .int .i64 2, .int .i64 1, .string ⟨#[110, 111, 116]⟩, .slice (some ⟨w.heap.size + 1 + 1 + 1, 0, none⟩) 2 2, .slice none 0 0] 54)
  have f0 := B2E.free 0
  have f1 := B2E.free 1
  have f2 := B2E.free 2
  have f3 := B2E.free 3
  have f4 := B2E.free 4
  obtain ⟨c0, c1, c2, c3, c4⟩ := cell5 B2E
  have hsE : ((((((w.alloc (.cells #[.int .i64 2, .int .i64 3, .int .i64 1, .slice (some ⟨w.heap.size + 1, 0, none⟩) 1 1, .slice (some ⟨w.heap.size + 1 + 1 + 1 + 1, 0, none⟩) 2 2] 25)).alloc (.cells #[.int .i64 1, .string ⟨#[98]⟩] 60)).alloc (.cells #[.string ⟨#[120]⟩] 9)).alloc (.cells #[.string ⟨#[120]⟩, .string ⟨#[121]⟩] 9)).alloc (.cells #[.int .i64 1, .int .i64 1, .string ⟨#[116, 111, 32, 98, 101]⟩, .slice (some ⟨w.heap.size + 1 + 1, 0, none⟩) 1 1, .slice none 0 0, .int .i64 2, .int .i64 1, .string ⟨#[110, 111, 116]⟩, .slice (some ⟨w.heap.size + 1 + 1 + 1, 0, none⟩) 2 2, .slice none 0 0] 54))).heap.size = w.heap.size + 5 := by simp
  have BKE : BksW (((((w.alloc (.cells #[.int .i64 2, .int .i64 3, .int .i64 1, .slice (some ⟨w.heap.size + 1, 0, none⟩) 1 1, .slice (some ⟨w.heap.size + 1 + 1 + 1 + 1, 0, none⟩) 2 2] 25)).alloc (.cells #[.int .i64 1, .string ⟨#[98]⟩] 60)).alloc (.cells #[.string ⟨#[120]⟩] 9)).alloc (.cells #[.string ⟨#[120]⟩, .string ⟨#[121]⟩] 9)).alloc (.cells #[.int .i64 1, .int .i64 1, .string ⟨#[116, 111, 32, 98, 101]⟩, .slice (some ⟨w.heap.size + 1 + 1, 0, none⟩) 1 1, .slice none 0 0, .int .i64 2, .int .i64 1, .string ⟨#[110, 111, 116]⟩, .slice (some ⟨w.heap.size + 1 + 1 + 1, 0, none⟩) 2 2, .slice none 0 0] 54)) (w.heap.size + 1) (.slice (some ⟨w.heap.size + 1, 0, none⟩) 1 1) sT.bs := oBE
  have NTE : NtsW (((((w.alloc (.cells #[.int .i64 2, .int .i64 3, .int .i64 1, .slice (some ⟨w.heap.size + 1, 0, none⟩) 1 1, .slice (some ⟨w.heap.size + 1 + 1 + 1 + 1, 0, none⟩) 2 2] 25)).alloc (.cells #[.int .i64 1, .string ⟨#[98]⟩] 60)).alloc (.cells #[.string ⟨#[120]⟩] 9)).alloc (.cells #[.string ⟨#[120]⟩, .string ⟨#[121]⟩] 9)).alloc (.cells #[.int .i64 1, .int .i64 1, .string ⟨#[116, 111, 32, 98, 101]⟩, .slice (some ⟨w.heap.size + 1 + 1, 0, none⟩) 1 1, .slice none 0 0, .int .i64 2, .int .i64 1, .string ⟨#[110, 111, 116]⟩, .slice (some ⟨w.heap.size + 1 + 1 + 1, 0, none⟩) 2 2, .slice none 0 0] 54)) (w.heap.size + 1) (.slice (some ⟨w.heap.size + 1 + 1 + 1 + 1, 0, none⟩) 2 2) sT.ts := by
    refine ⟨[ntC t1N (.slice (some ⟨w.heap.size + 1 + 1, 0, none⟩) 1 1) (.slice none 0 0), ntC t2N (.slice (some ⟨w.heap.size + 1 + 1 + 1, 0, none⟩) 2 2) (.slice none 0 0)], rfl, oN, ?_⟩
    intro k n e hn he
    match k, hn, he with
    | 0, hn, he =>
      cases hn
      cases he
      exact ⟨_, _, rfl, o1E, World.ownsRow_nil _ _ _ _⟩
    | 1, hn, he =>
      cases hn
      cases he
      exact ⟨_, _, rfl, o2E, World.ownsRow_nil _ _ _ _⟩
    | k + 2, hn, he => simp [sT] at hn
  clear oB o1 o2 oN a1 a2 a3 oBE o1E o2E B2
  go_enter Tryz.func34, Tryz.ntmps34
  go_upto_region 1 with fail
  go_wp2_with fail
  have hSW := (ShW.make (s := sT) BKE NTE).toR
  change bodyPost _ _ _ _ _ (((((w.alloc (.cells #[.int .i64 2, .int .i64 3, .int .i64 1, .slice (some ⟨w.heap.size + 1, 0, none⟩) 1 1, .slice (some ⟨w.heap.size + 1 + 1 + 1 + 1, 0, none⟩) 2 2] 25)).alloc (.cells #[.int .i64 1, .string ⟨#[98]⟩] 60)).alloc (.cells #[.string ⟨#[120]⟩] 9)).alloc (.cells #[.string ⟨#[120]⟩, .string ⟨#[121]⟩] 9)).alloc (.cells #[.int .i64 1, .int .i64 1, .string ⟨#[116, 111, 32, 98, 101]⟩, .slice (some ⟨w.heap.size + 1 + 1, 0, none⟩) 1 1, .slice none 0 0, .int .i64 2, .int .i64 1, .string ⟨#[110, 111, 116]⟩, .slice (some ⟨w.heap.size + 1 + 1 + 1, 0, none⟩) 2 2, .slice none 0 0] 54))
  generalize (((((w.alloc (.cells #[.int .i64 2, .int .i64 3, .int .i64 1, .slice (some ⟨w.heap.size + 1, 0, none⟩) 1 1, .slice (some ⟨w.heap.size + 1 + 1 + 1 + 1, 0, none⟩) 2 2] 25)).alloc (.cells #[.int .i64 1, .string ⟨#[98]⟩] 60)).alloc (.cells #[.string ⟨#[120]⟩] 9)).alloc (.cells #[.string ⟨#[120]⟩, .string ⟨#[121]⟩] 9)).alloc (.cells #[.int .i64 1, .int .i64 1, .string ⟨#[116, 111, 32, 98, 101]⟩, .slice (some ⟨w.heap.size + 1 + 1, 0, none⟩) 1 1, .slice none 0 0, .int .i64 2, .int .i64 1, .string ⟨#[110, 111, 116]⟩, .slice (some ⟨w.heap.size + 1 + 1 + 1, 0, none⟩) 2 2, .slice none 0 0] 54)) = WF at B2E HBE hSW ⊢
  apply bodyPost_ret (v := .agg #[.int .i64 2, .int .i64 3, .int .i64 1, .slice (some ⟨w.heap.size + 1, 0, none⟩) 1 1, .slice (some ⟨w.heap.size + 1 + 1 + 1 + 1, 0, none⟩) 2 2])
  · exact results_cell_row Tryz.results34 _ WF w.heap.size 25 _ (0, 0) _ rfl B2E Tryz.underlying25 rfl (by kernel_rfl)
  · rfl
  · exact ⟨_, rfl, hSW, HBE⟩
theorem aw1 : wordsL [116, 111, 32, 98, 101] = [[98, 101], [116, 111]] := by
  symm
  refine words_of (by decide) (fun x => ?_)
  rw [show splitL [116, 111, 32, 98, 101] = [[116, 111], [98, 101]] from rfl]
  simp only [List.mem_cons, List.not_mem_nil, or_false]
  constructor
  · rintro (rfl | rfl) <;> simp
  · rintro ⟨rfl | rfl, _⟩ <;> simp
theorem aw0 : wordsL [110, 111, 116] = [[110, 111, 116]] := by
  symm
  refine words_of (by decide) (fun x => ?_)
  rw [show splitL [110, 111, 116] = [[110, 111, 116]] from rfl]
  simp only [List.mem_cons, List.not_mem_nil, or_false]
  constructor
  · rintro rfl
    simp
  · rintro ⟨rfl, _⟩
    simp
theorem aw2 : wordsL [116, 111, 32, 98, 101, 32, 111, 114, 32, 110, 111, 116, 32, 116, 111, 32, 98, 101] = [[98, 101], [110, 111, 116], [111, 114], [116, 111]] := by
  symm
  refine words_of (by decide) (fun x => ?_)
  rw [show splitL [116, 111, 32, 98, 101, 32, 111, 114, 32, 110, 111, 116, 32, 116, 111, 32, 98, 101] = [[116, 111], [98, 101], [111, 114], [110, 111, 116], [116, 111], [98, 101]] from rfl]
  simp only [List.mem_cons, List.not_mem_nil, or_false]
  constructor
  · rintro (rfl | rfl | rfl | rfl) <;> simp
  · rintro ⟨rfl | rfl | rfl | rfl | rfl | rfl, _⟩ <;> simp
theorem ar1 : readL [97, 32, 32, 98] = none := by rfl
theorem ar2 : readL [35, 120, 32, 33, 98, 101] = some [⟨false, 35, [120]⟩, ⟨true, 0, [98, 101]⟩] := by rfl
theorem ah0 : soB ⟨true, 0, [98, 101]⟩ t1N nB = false := by
  unfold soB matB
  rw [if_neg (by decide), if_neg (by decide), show t1N.nm.toList = [116, 111, 32, 98, 101] from by decide +kernel, aw1]
  decide +kernel
theorem ah01 : soB ⟨true, 0, [98, 101]⟩ t2N nB = true := by
  unfold soB matB
  rw [if_neg (by decide), if_neg (by decide), show t2N.nm.toList = [110, 111, 116] from by decide +kernel, aw0]
  decide +kernel
theorem ah02 : soB ⟨false, 35, [120]⟩ t2N nB = true := by
  unfold soB matB
  rw [if_pos rfl]
  decide +kernel
theorem ah1 : hitB sT [⟨false, 35, [120]⟩, ⟨true, 0, [98, 101]⟩] t1N = false := by
  unfold hitB
  rw [show bkNm sT t1N.bk = nB from rfl]
  simp [ah0]
theorem ah2 : hitB sT [⟨false, 35, [120]⟩, ⟨true, 0, [98, 101]⟩] t2N = true := by
  unfold hitB
  rw [show bkNm sT t2N.bk = nB from rfl]
  simp [ah01, ah02]
theorem ah9 : hitsL sT [⟨false, 35, [120]⟩, ⟨true, 0, [98, 101]⟩] = [⟨2, nNot⟩] := by
  unfold hitsL
  rw [show sT.ts = [t1N, t2N] from rfl, List.filter_cons, ah1, List.filter_cons, ah2]
  rfl
theorem ah3 : mayQ [97, 32, 35, 98, 32, 47, 99, 32, 33, 100] = true := by rfl
theorem ah41 : kinB t1N 1 t1N = false := by decide +kernel
theorem ah42 : kinB t1N 1 t2N = true := by decide +kernel
theorem ah43 : comN t1N.tg t2N.tg = 1 := by decide +kernel
theorem ah4 : kinsL sT t1N 1 = [⟨2, nNot, 1⟩] := by
  unfold kinsL
  rw [show sT.ts = [t1N, t2N] from rfl, List.filter_cons, ah41, List.filter_cons, ah42]
  show [kinIt t1N t2N] = _
  unfold kinIt
  rw [ah43]
  rfl
theorem ah6 : noteAt sT 1 = ((0 : Nat) : Int) := by rfl
theorem ah8 : tagsA sT = [nX, nX, nY] := by rfl
theorem sameTextsN (L : List ByteArray) (A B : Option Addr) (n c d : Nat) (w : World) (hn : L.length = n) (n1 : n ≤ 1000000) (h1 : Sl w w.heap.size A (L.map strV)) (h2 : Sl w w.heap.size B (L.map strV)) : Calls Tryz.prog 21 #[.slice A n c, .slice B n d] w fun e' w' => e' = .returned (.bool true) ∧ Below w.heap.size w w' := by
  subst hn
  exact sameTexts_yes L A B c d w n1 h1 h2
theorem aw_find1 (v : Value) (w : World) (hS : ShR w w.heap.size v sT) (hT : Tabs w) : Calls Tryz.prog 12 #[v, .string ⟨#[35, 120, 32, 33, 98, 101]⟩] w fun e' w' => ∃ (A : Option Addr) (c : Nat), e' = .returned (.tuple #[.slice A 1 c, .int .i64 0]) ∧ SlE 2 w' w'.heap.size A (([⟨2, nNot⟩] : List It).map itC) ∧ Below w.heap.size w w' := by
  refine (find_any sT v [35, 120, 32, 33, 98, 101] _ w hS hT mayT ar2 (by decide)).mono ?_
  rintro e' w' ⟨A, c, its, rfl, h1, h2, h3, h4⟩
  rw [ah9] at h1
  obtain rfl := List.perm_singleton.1 h1
  exact ⟨A, c, rfl, sle_of_own h3 (fun x hx => by obtain ⟨y, _, rfl⟩ := List.mem_map.1 hx; rfl) (by decide), h4⟩
theorem aw_find2 (v : Value) (w : World) (hS : ShR w w.heap.size v sT) (hT : Tabs w) : Calls Tryz.prog 12 #[v, .string ⟨#[97, 32, 32, 98]⟩] w fun e' w' => e' = .returned (.tuple #[.slice none 0 0, .int .i64 5]) ∧ Below w.heap.size w w' :=
  find_form sT v [97, 32, 32, 98] w hS hT mayT ar1 (by decide)
theorem aw_kin (v : Value) (w : World) (hS : ShR w w.heap.size v sT) (hT : Tabs w) : Calls Tryz.prog 14 #[v, .int .i64 1] w fun e' w' => ∃ (A : Option Addr) (c : Nat), e' = .returned (.tuple #[.slice A 1 c, .int .i64 0]) ∧ SlE 2 w' w'.heap.size A (([⟨2, nNot⟩] : List It).map itC) ∧ Below w.heap.size w w' := by
  refine (kin_any sT v 1 w hS hT mayT 0 t1N ah6 rfl).mono ?_
  rintro e' w' ⟨A, c, its, rfl, h1, h2, h3, h4⟩
  rw [ah4] at h1
  obtain rfl := List.perm_singleton.1 h1
  exact ⟨A, c, rfl, sle_of_own h3 (fun x hx => by obtain ⟨y, _, rfl⟩ := List.mem_map.1 hx; rfl) (by decide), h4⟩
theorem aw_words (w : World) : Calls Tryz.prog 17 #[.string ⟨#[116, 111, 32, 98, 101, 32, 111, 114, 32, 110, 111, 116, 32, 116, 111, 32, 98, 101]⟩] w fun e' w' => ∃ (A : Option Addr) (c : Nat), e' = .returned (.slice A 4 c) ∧ Sl w' w'.heap.size A ([(⟨#[98, 101]⟩ : ByteArray), (⟨#[110, 111, 116]⟩ : ByteArray), (⟨#[111, 114]⟩ : ByteArray), (⟨#[116, 111]⟩ : ByteArray)].map strV) ∧ Below w.heap.size w w' := by
  refine (words_any [116, 111, 32, 98, 101, 32, 111, 114, 32, 110, 111, 116, 32, 116, 111, 32, 98, 101] (by decide) w).mono ?_
  rintro e' w' ⟨v, rfl, h3, h4⟩
  rw [aw2] at h3
  obtain ⟨A, c, rfl, -, -⟩ := own_shape h3
  exact ⟨A, c, rfl, Sl.of_own h3, h4⟩
theorem aw_tags (v : Value) (w : World) (hS : ShR w w.heap.size v sT) (hT : Tabs w) : Calls Tryz.prog 16 #[v] w fun e' w' => ∃ (A : Option Addr) (c : Nat), e' = .returned (.slice A 2 c) ∧ SlE 2 w' w'.heap.size A (([⟨2, nX⟩, ⟨1, nY⟩] : List It).map itC) ∧ Below w.heap.size w w' := by
  refine (tags_any sT v w hS hT mayT).mono ?_
  rintro e' w' ⟨A, c, ks, rfl, h1, h2, h3, h4⟩
  have hk : ks = [[120], [121]] := by
    refine rise_uniq h1 (by decide) (fun x => ?_)
    rw [h2, ah8]
    simp only [List.mem_cons, List.not_mem_nil, or_false]
    constructor
    · rintro (h | h | h)
      · exact Or.inl (by have := congrArg (fun z : ByteArray => z.data.toList) h; simpa [bOf, nX] using this)
      · exact Or.inl (by have := congrArg (fun z : ByteArray => z.data.toList) h; simpa [bOf, nX] using this)
      · exact Or.inr (by have := congrArg (fun z : ByteArray => z.data.toList) h; simpa [bOf, nY] using this)
    · rintro (rfl | rfl)
      · exact Or.inl rfl
      · exact Or.inr (Or.inr rfl)
  subst hk
  exact ⟨A, c, rfl, sle_of_own h3 (fun x hx => by obtain ⟨y, _, rfl⟩ := List.mem_map.1 hx; rfl) (by decide), h4⟩
theorem aw_may (w : World) : Calls Tryz.prog 23 #[.string ⟨#[97, 32, 35, 98, 32, 47, 99, 32, 33, 100]⟩] w fun e' w' => e' = .returned (.bool true) ∧ Below w.heap.size w w' := mayq_any [97, 32, 35, 98, 32, 47, 99, 32, 33, 100] w (by decide) true ah3
theorem awakeK_any (w : World) (hT : Tabs w) : Calls Tryz.prog 10 #[] w fun e' w' => e' = .returned (.bool true) ∧ Below w.heap.size w w' := by
  have HB := Below.refl w.heap.size w
  have HT := hT
  go_enter Tryz.func10, Tryz.ntmps10
  go_wp2_with (first
    | (go_at_call 12; ((with_reducible refine (aw_find1 _ _ hS HT).mono ?_); rintro e' w2 ⟨A2, c2, rfl, hs, bx⟩; have HB := btr HB HB.size bx; have HT := HT.next bx; (try replace hk := SlE.next hk bx); (try replace hg := SlE.next hg bx); (try replace hw := (Sl.below hw bx).mono_ (Below.size bx)); (try replace hl := SlE.next hl bx); (try replace hlw := (Sl.below hlw bx).mono_ (Below.size bx)); clear bx hS))
    | (go_at_call 12; ((with_reducible refine (aw_find2 _ _ hS HT).mono ?_); rintro e' w3 ⟨rfl, bx⟩; have HB := btr HB HB.size bx; have HT := HT.next bx; (try replace hs := SlE.next hs bx); (try replace hk := SlE.next hk bx); (try replace hg := SlE.next hg bx); (try replace hw := (Sl.below hw bx).mono_ (Below.size bx)); (try replace hl := SlE.next hl bx); (try replace hlw := (Sl.below hlw bx).mono_ (Below.size bx)); clear bx hS))
    | (go_at_call 14; ((with_reducible refine (aw_kin _ _ hS HT).mono ?_); rintro e' w4 ⟨A4, c4, rfl, hk, bx⟩; have HB := btr HB HB.size bx; have HT := HT.next bx; (try replace hs := SlE.next hs bx); (try replace hg := SlE.next hg bx); (try replace hw := (Sl.below hw bx).mono_ (Below.size bx)); (try replace hl := SlE.next hl bx); (try replace hlw := (Sl.below hlw bx).mono_ (Below.size bx)); clear bx hS))
    | (go_at_call 17; ((with_reducible refine (aw_words _).mono ?_); rintro e' w5 ⟨A5, c5, rfl, hw, bx⟩; have HB := btr HB HB.size bx; have HT := HT.next bx; (try replace hs := SlE.next hs bx); (try replace hk := SlE.next hk bx); (try replace hg := SlE.next hg bx); (try replace hl := SlE.next hl bx); (try replace hlw := (Sl.below hlw bx).mono_ (Below.size bx)); have hlw := lit_sl w5 #[.string ⟨#[98, 101]⟩, .string ⟨#[110, 111, 116]⟩, .string ⟨#[111, 114]⟩, .string ⟨#[116, 111]⟩] 9 4 ([(⟨#[98, 101]⟩ : ByteArray), (⟨#[110, 111, 116]⟩ : ByteArray), (⟨#[111, 114]⟩ : ByteArray), (⟨#[116, 111]⟩ : ByteArray)].map strV) rfl rfl (by decide); have al := (Below.refl _ w5).alloc (Nat.le_refl _) (.cells #[.string ⟨#[98, 101]⟩, .string ⟨#[110, 111, 116]⟩, .string ⟨#[111, 114]⟩, .string ⟨#[116, 111]⟩] 9); have HB := btr HB HB.size al; have HT := HT.next al; (try replace hs := SlE.next hs al); (try replace hk := SlE.next hk al); (try replace hg := SlE.next hg al); (try replace hw := (Sl.below hw al).mono_ (Below.size al)); (try replace hl := SlE.next hl al); clear al; clear bx))
    | (go_at_call 21; ((with_reducible refine (sameTextsN ([(⟨#[98, 101]⟩ : ByteArray), (⟨#[110, 111, 116]⟩ : ByteArray), (⟨#[111, 114]⟩ : ByteArray), (⟨#[116, 111]⟩ : ByteArray)]) _ _ 4 _ _ _ rfl (by decide) hw hlw).mono ?_); rintro e' w6 ⟨rfl, bx⟩; have HB := btr HB HB.size bx; have HT := HT.next bx; (try replace hs := SlE.next hs bx); (try replace hk := SlE.next hk bx); (try replace hg := SlE.next hg bx); (try replace hw := (Sl.below hw bx).mono_ (Below.size bx)); (try replace hl := SlE.next hl bx); (try replace hlw := (Sl.below hlw bx).mono_ (Below.size bx)); have hl := lit_slE w6 #[.int .i64 2, .string ⟨#[110, 111, 116]⟩] 50 2 1 (([⟨2, nNot⟩] : List It).map itC) rfl (fun x hx => by obtain ⟨y, _, rfl⟩ := List.mem_map.1 hx; rfl) rfl (by decide) (by decide); have al := (Below.refl _ w6).alloc (Nat.le_refl _) (.cells #[.int .i64 2, .string ⟨#[110, 111, 116]⟩] 50); have HB := btr HB HB.size al; have HT := HT.next al; (try replace hs := SlE.next hs al); (try replace hk := SlE.next hk al); (try replace hg := SlE.next hg al); (try replace hw := (Sl.below hw al).mono_ (Below.size al)); (try replace hlw := (Sl.below hlw al).mono_ (Below.size al)); clear al; clear bx hw hlw))
    | (go_at_call 18; ((with_reducible refine (sameItems_yes ([⟨2, nNot⟩] : List It) _ _ 1 _ _ _ rfl (by decide) hs hl).mono ?_); rintro e' w7 ⟨rfl, bx⟩; have HB := btr HB HB.size bx; have HT := HT.next bx; (try replace hs := SlE.next hs bx); (try replace hk := SlE.next hk bx); (try replace hg := SlE.next hg bx); (try replace hw := (Sl.below hw bx).mono_ (Below.size bx)); (try replace hl := SlE.next hl bx); (try replace hlw := (Sl.below hlw bx).mono_ (Below.size bx)); clear bx hs hl))
    | (go_at_call 16; ((with_reducible refine (aw_tags _ _ hS HT).mono ?_); rintro e' w8 ⟨A8, c8, rfl, hg, bx⟩; have HB := btr HB HB.size bx; have HT := HT.next bx; (try replace hs := SlE.next hs bx); (try replace hk := SlE.next hk bx); (try replace hw := (Sl.below hw bx).mono_ (Below.size bx)); (try replace hl := SlE.next hl bx); (try replace hlw := (Sl.below hlw bx).mono_ (Below.size bx)); have hl := lit_slE w8 #[.int .i64 2, .string ⟨#[120]⟩, .int .i64 1, .string ⟨#[121]⟩] 50 2 2 (([⟨2, nX⟩, ⟨1, nY⟩] : List It).map itC) rfl (fun x hx => by obtain ⟨y, _, rfl⟩ := List.mem_map.1 hx; rfl) rfl (by decide) (by decide); have al := (Below.refl _ w8).alloc (Nat.le_refl _) (.cells #[.int .i64 2, .string ⟨#[120]⟩, .int .i64 1, .string ⟨#[121]⟩] 50); have HB := btr HB HB.size al; have HT := HT.next al; (try replace hs := SlE.next hs al); (try replace hk := SlE.next hk al); (try replace hg := SlE.next hg al); (try replace hw := (Sl.below hw al).mono_ (Below.size al)); (try replace hlw := (Sl.below hlw al).mono_ (Below.size al)); clear al; clear bx hS))
    | (go_at_call 18; ((with_reducible refine (sameItems_yes ([⟨2, nX⟩, ⟨1, nY⟩] : List It) _ _ 2 _ _ _ rfl (by decide) hg hl).mono ?_); rintro e' w9 ⟨rfl, bx⟩; have HB := btr HB HB.size bx; have HT := HT.next bx; (try replace hs := SlE.next hs bx); (try replace hk := SlE.next hk bx); (try replace hg := SlE.next hg bx); (try replace hw := (Sl.below hw bx).mono_ (Below.size bx)); (try replace hl := SlE.next hl bx); (try replace hlw := (Sl.below hlw bx).mono_ (Below.size bx)); clear hl; have hl := lit_slE w9 #[.int .i64 2, .string ⟨#[110, 111, 116]⟩] 50 2 1 (([⟨2, nNot⟩] : List It).map itC) rfl (fun x hx => by obtain ⟨y, _, rfl⟩ := List.mem_map.1 hx; rfl) rfl (by decide) (by decide); have al := (Below.refl _ w9).alloc (Nat.le_refl _) (.cells #[.int .i64 2, .string ⟨#[110, 111, 116]⟩] 50); have HB := btr HB HB.size al; have HT := HT.next al; (try replace hs := SlE.next hs al); (try replace hk := SlE.next hk al); (try replace hg := SlE.next hg al); (try replace hw := (Sl.below hw al).mono_ (Below.size al)); (try replace hlw := (Sl.below hlw al).mono_ (Below.size al)); clear al; clear bx hg))
    | (go_at_call 18; ((with_reducible refine (sameItems_yes ([⟨2, nNot⟩] : List It) _ _ 1 _ _ _ rfl (by decide) hk hl).mono ?_); rintro e' w10 ⟨rfl, bx⟩; have HB := btr HB HB.size bx; have HT := HT.next bx; (try replace hs := SlE.next hs bx); (try replace hk := SlE.next hk bx); (try replace hg := SlE.next hg bx); (try replace hw := (Sl.below hw bx).mono_ (Below.size bx)); (try replace hl := SlE.next hl bx); (try replace hlw := (Sl.below hlw bx).mono_ (Below.size bx)); clear bx hk hl))
    | (go_at_call 23; ((with_reducible refine (aw_may _).mono ?_); rintro e' w11 ⟨rfl, bx⟩; have HB := btr HB HB.size bx; have HT := HT.next bx; (try replace hs := SlE.next hs bx); (try replace hk := SlE.next hk bx); (try replace hg := SlE.next hg bx); (try replace hw := (Sl.below hw bx).mono_ (Below.size bx)); (try replace hl := SlE.next hl bx); (try replace hlw := (Sl.below hlw bx).mono_ (Below.size bx)); clear bx))
    | (go_at_call 34; ((with_reducible refine (two_any _).mono ?_); rintro e' w1 ⟨v1, rfl, hS, bx⟩; have HB := btr HB HB.size bx; have HT := HT.next bx; (try replace hs := SlE.next hs bx); (try replace hk := SlE.next hk bx); (try replace hg := SlE.next hg bx); (try replace hw := (Sl.below hw bx).mono_ (Below.size bx)); (try replace hl := SlE.next hl bx); (try replace hlw := (Sl.below hlw bx).mono_ (Below.size bx)); clear bx)))
  go_ret
  exact ⟨rfl, HB⟩
end Go.Proofs.YteokeghenjobaaaGreatDoor
namespace Go.Proofs.YteokeghenjobaaaGreatDoor
open Go.ChangeShapes Go.WideShapes Go.ChangeAt Go.RowKit
attribute [local go_sem ↓] Go.wp_at_zero Go.wp_at_succ
attribute [local go_sem] Oper.semAt_some
theorem bOf_d2 (S : ByteArray) : bOf S.data.toList = S := data_inj (bOf_l _)
def leF (a b : It) : Bool := !decide (cmpF b a < 0)
def findL (s : Sf) (ts : List Trm) : List It := (hitsL s ts).mergeSort leF
theorem in_go (l : List It) (A : Option Addr) (n cp : Nat) (x : It) (w : World) (hn : l.length = n) (hS : SlE 2 w w.heap.size A (l.map itC)) (hl : n ≤ 1000000) (T : Bool) (hT : inB l x = T) : Calls Tryz.prog 30 #[.slice A n cp, .agg #[.int .i64 x.id, .string x.nm]] w fun e' w' => e' = .returned (.bool T) ∧ Below w.heap.size w w' := by
  subst hn
  exact in_any l A cp x w hS hl T hT
theorem in_true {l : List It} {x : It} (h : x ∈ l) : inB l x = true := (inB_iff l x).2 h
end Go.Proofs.YteokeghenjobaaaGreatDoor
namespace Go.Proofs.YteokeghenjobaaaGreatDoor
open Go.ChangeShapes Go.WideShapes Go.ChangeAt Go.RowKit
attribute [local go_sem ↓] Go.wp_at_zero Go.wp_at_succ
attribute [local go_sem] Oper.semAt_some
theorem ind_sum (y : List UInt8) : ∀ ks : List (List UInt8), ks.Nodup → (ks.map fun x => if y = x then 1 else 0).sum = if y ∈ ks then 1 else 0
  | [], _ => rfl
  | x :: ks, h => by
    rw [List.nodup_cons] at h
    rw [List.map_cons, List.sum_cons, ind_sum y ks h.2]
    by_cases hx : y = x
    · subst hx
      rw [if_pos rfl, if_neg h.1, if_pos (by simp)]
    · rw [if_neg hx]
      by_cases hm : y ∈ ks
      · rw [if_pos hm, if_pos (by simp [hm])]
      · rw [if_neg hm, if_neg (by simp [hm, hx])]
theorem sum_add2 (ks : List (List UInt8)) (f g : List UInt8 → Nat) : (ks.map fun x => f x + g x).sum = (ks.map f).sum + (ks.map g).sum := by
  induction ks with
  | nil => rfl
  | cons x ks ih => simp only [List.map_cons, List.sum_cons, ih]; omega
theorem zero_sum (ks : List (List UInt8)) : (ks.map fun _ => 0).sum = 0 := by
  induction ks with
  | nil => rfl
  | cons x ks ih => rw [List.map_cons, List.sum_cons, ih]
theorem sum_cnt (ks : List (List UInt8)) (hn : ks.Nodup) : ∀ l : List ByteArray, (∀ y ∈ l, y.data.toList ∈ ks) → (ks.map (cntT l)).sum = l.length
  | [], _ => by
    have : (cntT []) = fun _ => 0 := by funext x; rfl
    rw [this]
    exact zero_sum ks
  | y :: l, h => by
    have e : cntT (y :: l) = fun x => cntT l x + (if y.data.toList = x then 1 else 0) := by
      funext x
      unfold cntT
      rw [List.countP_cons]
      simp
    rw [e, sum_add2, sum_cnt ks hn l (fun z hz => h z (by simp [hz])), ind_sum _ ks hn, if_pos (h y (by simp)), List.length_cons]
def sumT (s : Sf) (ks : List (List UInt8)) (k : Nat) : Nat := ((ks.take k).map (cntT (tagsA s))).sum
theorem sumT_next {s : Sf} {ks : List (List UInt8)} {k : Nat} {x : List UInt8} (h : ks[k]? = some x) : sumT s ks (k + 1) = sumT s ks k + cntT (tagsA s) x := by
  unfold sumT
  rw [List.take_add_one, h, List.map_append, List.sum_append]
  simp
theorem sumT_all {s : Sf} {ks : List (List UInt8)} (h1 : ks.Pairwise (· < ·)) (h2 : ∀ p, p ∈ ks ↔ bOf p ∈ tagsA s) : sumT s ks ks.length = (tagsA s).length := by
  unfold sumT
  rw [List.take_length]
  refine sum_cnt ks (h1.imp (fun {a b} h e => by subst e; exact lt_irr a h)) _ (fun y hy => ?_)
  rw [h2, bOf_d2]
  exact hy
theorem tagsA_len {s : Sf} (hF : MayF s) : (tagsA s).length ≤ 48 := by
  have h := flatTake_len hF s.ts.length
  rw [List.take_length] at h
  have := hF.tl
  unfold tagsA
  omega
theorem kin_mem {s : Sf} {X : Nt} {its : List Kn} (hp : its.Perm (kinsL s X X.id)) (y : It) : y ∈ its.map knIt ↔ ∃ m ∈ s.ts, kinB X X.id m = true ∧ ntIt m = y := by
  rw [List.mem_map]
  constructor
  · rintro ⟨k, hk, rfl⟩
    rw [hp.mem_iff] at hk
    unfold kinsL at hk
    obtain ⟨m, hm, rfl⟩ := List.mem_map.1 hk
    rw [List.mem_filter] at hm
    exact ⟨m, hm.1, hm.2, rfl⟩
  · rintro ⟨m, hm, h, rfl⟩
    refine ⟨kinIt X m, hp.mem_iff.2 ?_, rfl⟩
    unfold kinsL
    exact List.mem_map.2 ⟨m, List.mem_filter.2 ⟨hm, h⟩, rfl⟩
theorem kin_go (s : Sf) (v : Value) (X : Nt) (w : World) (hS : ShR w w.heap.size v s) (hT : Tabs w) (hM : mayS s = true) (hX : X ∈ s.ts) : Calls Tryz.prog 14 #[v, .int .i64 X.id] w fun e' w' => ∃ (A : Option Addr) (c : Nat) (its : List It), e' = .returned (.tuple #[.slice A its.length c, .int .i64 0]) ∧ (∀ y, y ∈ its ↔ ∃ m ∈ s.ts, kinB X X.id m = true ∧ ntIt m = y) ∧ its.length ≤ 12 ∧ SlE 2 w' w'.heap.size A (its.map itC) ∧ Below w.heap.size w w' := by
  have hF := mayF_of hM
  obtain ⟨k, h1, h2⟩ := noteAt_of hF hX
  refine (kin_any s v X.id w hS hT hM k X h1 h2).mono ?_
  rintro e' w' ⟨A, c, ks, rfl, p1, p2, p3, p4⟩
  refine ⟨A, c, ks.map knIt, by rw [List.length_map], kin_mem p1, ?_, sle_of_own p3 (fun x hx => by obtain ⟨y, _, rfl⟩ := List.mem_map.1 hx; rfl) (by decide), p4⟩
  rw [List.length_map, p1.length_eq]
  unfold kinsL
  rw [List.length_map]
  exact Nat.le_trans (List.length_filter_le _ _) hF.tl
theorem comN_comm {a b : List ByteArray} : 0 < comN a b → 0 < comN b a := by
  rw [comN_pos, comN_pos]
  rintro ⟨x, h1, h2⟩
  exact ⟨x, h2, h1⟩
theorem kinB_back {s : Sf} {X m : Nt} (h : kinB X X.id m = true) : kinB m m.id X = true ∧ (m.id == X.id) = false := by
  unfold kinB at h ⊢
  rw [Bool.and_eq_true] at h
  have h1 := of_decide_eq_true h.1
  have h2 : ¬ m.id = X.id := by simpa using h.2
  refine ⟨?_, by simpa using h2⟩
  rw [Bool.and_eq_true]
  exact ⟨decide_eq_true (comN_comm h1), by simpa using fun e => h2 e.symm⟩
theorem less_not2 {x y : List UInt8} (h : x < y) : Op.bytesLess (bOf y).toList (bOf x).toList = false ∧ ((bOf y).toList == (bOf x).toList) = false := by
  have hy : (bOf y).toList = y := by rw [ByteArray.toList_eq]; exact bOf_l y
  have hx : (bOf x).toList = x := by rw [ByteArray.toList_eq]; exact bOf_l x
  rw [hx, hy, less_lt]
  refine ⟨decide_eq_false (List.lt_asymm h), ?_⟩
  cases hq : (y == x)
  · rfl
  · rw [beq_iff_eq] at hq
    rw [hq] at h
    exact absurd h (lt_irr _)
theorem tags_go (s : Sf) (v : Value) (w : World) (hS : ShR w w.heap.size v s) (hT : Tabs w) (hM : mayS s = true) : Calls Tryz.prog 16 #[v] w fun e' w' => ∃ (A : Option Addr) (c : Nat) (ks : List (List UInt8)), e' = .returned (.slice A ks.length c) ∧ Hid (ks.Pairwise (· < ·) ∧ (∀ p, p ∈ ks ↔ bOf p ∈ tagsA s) ∧ ks.length ≤ 48) ∧ SlE 2 w' w'.heap.size A ((ks.map (tagIt s)).map itC) ∧ Below w.heap.size w w' := by
  refine (tags_any s v w hS hT hM).mono ?_
  rintro e' w' ⟨A, c, ks, rfl, h1, h2, h3, h4⟩
  refine ⟨A, c, ks, rfl, Lib.hid ⟨h1, h2, ?_⟩, sle_of_own h3 (fun x hx => by obtain ⟨y, _, rfl⟩ := List.mem_map.1 hx; rfl) (by decide), h4⟩
  have hs := sumT_all h1 h2
  have hle : ks.length ≤ sumT s ks ks.length := by
    unfold sumT
    rw [List.take_length]
    have gen : ∀ l : List (List UInt8), (∀ x ∈ l, 0 < cntT (tagsA s) x) → l.length ≤ (l.map (cntT (tagsA s))).sum := by
      intro l
      induction l with
      | nil => intro _; exact Nat.le_refl _
      | cons x l ih =>
        intro hl
        have a := hl x (by simp)
        have b := ih (fun y hy => hl y (by simp [hy]))
        rw [List.length_cons, List.map_cons, List.sum_cons]
        omega
    exact gen ks (fun x hx => (cntT_pos _ _).2 ((h2 x).1 hx))
  have := tagsA_len (mayF_of hM)
  omega
theorem kin_walk (s : Sf) (v : Value) (which : Int) (w : World) (hS : ShR w w.heap.size v s) (hwh : i64in which) (hT : Tabs w) :
    Calls Tryz.prog 6 #[v, .int .i64 which] w fun e' w' => e' = .returned (.bool true) ∧ Below w.heap.size w w' := by
  clear hwh
  have hS0 := hS
  obtain ⟨Ab, cb, An, cn, rfl, hB, hN, hcb, hmb, hcn, hmn⟩ := hS.ex
  clear hS
  obtain ⟨n, hn⟩ : ∃ n, s.ts.length = n := ⟨_, rfl⟩
  obtain ⟨bn, hbn⟩ : ∃ n, s.bs.length = n := ⟨_, rfl⟩
  have HB : Below w.heap.size w (w.alloc (.cells #[.int .i64 s.nb, .int .i64 s.nn, .int .i64 s.ns, .slice Ab s.bs.length cb, .slice An s.ts.length cn] 25)) := ((Below.refl w.heap.size w).alloc (by first | (simp; done) | (simp; omega)) _)
  have B1 : Blk (w.alloc (.cells #[.int .i64 s.nb, .int .i64 s.nn, .int .i64 s.ns, .slice Ab s.bs.length cb, .slice An s.ts.length cn] 25)) w.heap.size 25 #[.int .i64 s.nb, .int .i64 s.nn, .int .i64 s.ns, .slice Ab s.bs.length cb, .slice An s.ts.length cn] := Blk.new_ w 25 #[.int .i64 s.nb, .int .i64 s.nn, .int .i64 s.ns, .slice Ab s.bs.length cb, .slice An s.ts.length cn]
  have S1 : ShR (w.alloc (.cells #[.int .i64 s.nb, .int .i64 s.nn, .int .i64 s.ns, .slice Ab s.bs.length cb, .slice An s.ts.length cn] 25)) ((w.alloc (.cells #[.int .i64 s.nb, .int .i64 s.nn, .int .i64 s.ns, .slice Ab s.bs.length cb, .slice An s.ts.length cn] 25))).heap.size (.agg #[.int .i64 s.nb, .int .i64 s.nn, .int .i64 s.ns, .slice Ab s.bs.length cb, .slice An s.ts.length cn]) s := hS0.next HB
  have T1 := hT.next HB
  obtain ⟨es, hel, hse, hnt⟩ := hN.ex
  simp only [hn, hbn] at HB B1 S1 T1 hel ⊢
  obtain ⟨G, hG⟩ : ∃ G, greatS s = G := ⟨_, rfl⟩
  obtain ⟨M, hM⟩ : ∃ M, mayS s = M := ⟨_, rfl⟩
  have HG := Lib.hid hG
  have HM := Lib.hid hM
  have HN := Lib.hid hn
  have HEL := Lib.hid hel
  clear hG hM hn hbn hS0 hB hN hel
  cases G
  case true =>
    skip
    go_enter Tryz.func6, Tryz.ntmps6
    go_wp2_with (first
        | (go_at_call 9; ((with_reducible refine (greatShelf_any s _ _ S1 _ HG.out).mono ?_); rintro e' wg ⟨rfl, b3⟩; have S1 := S1.next b3; have T1 := T1.next b3; have B1 := B1.below b3 B1.lt; have HB := btr HB HB.size b3; (try clear k0 k1 k2 k3 k4); have k0 := B1.cell_ 0; have k1 := B1.cell_ 1; have k2 := B1.cell_ 2; have k3 := B1.cell_ 3; have k4 := B1.cell_ 4; simp at k0 k1 k2 k3 k4; (try replace ra := SlE.next ra b3); (try replace rb := SlE.next rb b3); (try replace rc := SlE.next rc b3); (try replace rd := SlE.next rd b3); (try replace re := SlE.next re b3); clear b3))
        | (go_at_call 28; ((with_reducible refine (smay_any s _ _ S1 T1 _ HM.out).mono ?_); rintro e' wm ⟨rfl, b4⟩; have S1 := S1.next b4; have T1 := T1.next b4; have B1 := B1.below b4 B1.lt; have HB := btr HB HB.size b4; (try clear k0 k1 k2 k3 k4); have k0 := B1.cell_ 0; have k1 := B1.cell_ 1; have k2 := B1.cell_ 2; have k3 := B1.cell_ 3; have k4 := B1.cell_ 4; simp at k0 k1 k2 k3 k4; (try replace ra := SlE.next ra b4); (try replace rb := SlE.next rb b4); (try replace rc := SlE.next rc b4); (try replace rd := SlE.next rd b4); (try replace re := SlE.next re b4); clear b4))
        | (go_at_call 10; ((with_reducible refine (awakeK_any _ T1).mono ?_); rintro e' w9 ⟨rfl, b9⟩; have HB := btr HB HB.size b9; clear b9)))
    go_ret
    exact ⟨rfl, HB⟩
  cases M
  case false =>
    skip
    go_enter Tryz.func6, Tryz.ntmps6
    go_wp2_with (first
        | (go_at_call 9; ((with_reducible refine (greatShelf_any s _ _ S1 _ HG.out).mono ?_); rintro e' wg ⟨rfl, b3⟩; have S1 := S1.next b3; have T1 := T1.next b3; have B1 := B1.below b3 B1.lt; have HB := btr HB HB.size b3; (try clear k0 k1 k2 k3 k4); have k0 := B1.cell_ 0; have k1 := B1.cell_ 1; have k2 := B1.cell_ 2; have k3 := B1.cell_ 3; have k4 := B1.cell_ 4; simp at k0 k1 k2 k3 k4; (try replace ra := SlE.next ra b3); (try replace rb := SlE.next rb b3); (try replace rc := SlE.next rc b3); (try replace rd := SlE.next rd b3); (try replace re := SlE.next re b3); clear b3))
        | (go_at_call 28; ((with_reducible refine (smay_any s _ _ S1 T1 _ HM.out).mono ?_); rintro e' wm ⟨rfl, b4⟩; have S1 := S1.next b4; have T1 := T1.next b4; have B1 := B1.below b4 B1.lt; have HB := btr HB HB.size b4; (try clear k0 k1 k2 k3 k4); have k0 := B1.cell_ 0; have k1 := B1.cell_ 1; have k2 := B1.cell_ 2; have k3 := B1.cell_ 3; have k4 := B1.cell_ 4; simp at k0 k1 k2 k3 k4; (try replace ra := SlE.next ra b4); (try replace rb := SlE.next rb b4); (try replace rc := SlE.next rc b4); (try replace rd := SlE.next rd b4); (try replace re := SlE.next re b4); clear b4))
        | (go_at_call 10; ((with_reducible refine (awakeK_any _ T1).mono ?_); rintro e' w9 ⟨rfl, b9⟩; have HB := btr HB HB.size b9; clear b9)))
    go_ret
    exact ⟨rfl, HB⟩
  have hF := mayF_of HM.out
  have hn12 : n ≤ 12 := by have := hF.tl; have := HN.out; omega
  have hTL := tagsA_len hF
  have HFF := Lib.hid hF
  clear hF
  go_enter Tryz.func6, Tryz.ntmps6
  go_upto_region 6 with (first
      | (go_at_call 9; ((with_reducible refine (greatShelf_any s _ _ S1 _ HG.out).mono ?_); rintro e' wg ⟨rfl, b3⟩; have S1 := S1.next b3; have T1 := T1.next b3; have B1 := B1.below b3 B1.lt; have HB := btr HB HB.size b3; (try clear k0 k1 k2 k3 k4); have k0 := B1.cell_ 0; have k1 := B1.cell_ 1; have k2 := B1.cell_ 2; have k3 := B1.cell_ 3; have k4 := B1.cell_ 4; simp at k0 k1 k2 k3 k4; (try replace ra := SlE.next ra b3); (try replace rb := SlE.next rb b3); (try replace rc := SlE.next rc b3); (try replace rd := SlE.next rd b3); (try replace re := SlE.next re b3); clear b3))
      | (go_at_call 28; ((with_reducible refine (smay_any s _ _ S1 T1 _ HM.out).mono ?_); rintro e' wm ⟨rfl, b4⟩; have S1 := S1.next b4; have T1 := T1.next b4; have B1 := B1.below b4 B1.lt; have HB := btr HB HB.size b4; (try clear k0 k1 k2 k3 k4); have k0 := B1.cell_ 0; have k1 := B1.cell_ 1; have k2 := B1.cell_ 2; have k3 := B1.cell_ 3; have k4 := B1.cell_ 4; simp at k0 k1 k2 k3 k4; (try replace ra := SlE.next ra b4); (try replace rb := SlE.next rb b4); (try replace rc := SlE.next rc b4); (try replace rd := SlE.next rd b4); (try replace re := SlE.next re b4); clear b4))
      | (go_at_call 16; ((with_reducible refine (tags_go s _ _ S1 T1 HM.out).mono ?_); rintro e' wt ⟨At_, ct_, ks, rfl, HKS, rt, b6⟩; have S1 := S1.next b6; have T1 := T1.next b6; have B1 := B1.below b6 B1.lt; have HB := btr HB HB.size b6; (try clear k0 k1 k2 k3 k4); have k0 := B1.cell_ 0; have k1 := B1.cell_ 1; have k2 := B1.cell_ 2; have k3 := B1.cell_ 3; have k4 := B1.cell_ 4; simp at k0 k1 k2 k3 k4; (try replace ra := SlE.next ra b6); (try replace rb := SlE.next rb b6); (try replace rc := SlE.next rc b6); (try replace rd := SlE.next rd b6); (try replace re := SlE.next re b6); clear b6)))
  obtain ⟨m, hm⟩ : ∃ m, ks.length = m := ⟨_, rfl⟩
  rw [hm]
  have HMK := Lib.hid hm
  clear hm
  have hB0 := HB
  have hT0 := T1
  have hS3 := S1
  have B1q := B1
  clear HB T1 S1 B1 k0 k1 k2 k3 k4
  obtain ⟨wF, hwF⟩ : ∃ V, V = wt := ⟨_, rfl⟩
  rw [← hwF] at hB0 hT0 hS3 B1q rt ⊢
  clear hwF
  have hm48 : m ≤ 48 := by
    have h1 := HKS.out.2.2
    have h2 := HMK.out
    omega
  go_loopw [5, 8] (fun sv i wr => ∃ k c : Nat, k ≤ m ∧ i = .int .i64 k ∧ sv = .int .i64 c ∧ c ≤ 48 * k ∧ Hid (sumT s ks k = c) ∧ Below wF.heap.size wF wr) (fun _ i _ => m - (intOf i).toNat)
  case atStart => exact ⟨0, 0, by omega, rfl, rfl, by omega, Lib.hid rfl, Below.refl _ _⟩
  case round =>
    obtain ⟨k, c, hk, rfl, rfl, hck, HC, HBr⟩ := hrel
    by_cases hlt : k < m
    · have hlx : k < ks.length := by have := HMK.out; omega
      have i0 : (0 : Int) ≤ (k : Int) := by omega
      have i1 : (k : Int) < (m : Int) := by omega
      obtain ⟨y, hx⟩ : ∃ y, ks[k]? = some y := ⟨_, List.getElem?_eq_getElem hlx⟩
      obtain ⟨b2, o2, rfl, l2, q2⟩ := rt.at_ (by rw [List.length_map, List.length_map]; omega)
      have he : ((ks.map (tagIt s)).map itC)[k]? = some (itC (tagIt s y)) := by rw [List.getElem?_map, List.getElem?_map, hx]; rfl
      obtain ⟨cn, hcn⟩ : ∃ c, cntT (tagsA s) y = c := ⟨_, rfl⟩
      have hcn48 : cn ≤ 48 := by rw [← hcn]; exact Nat.le_trans (cntT_le _ _) hTL
      have y0 : wr.cell? ⟨b2, o2 + k * 2 + 0, none⟩ = some (.int .i64 (cn : Int)) := by
        rw [← hcn]
        exact (HBr.cell (p := ⟨b2, _, none⟩) l2).trans (q2 k _ he 0 _ rfl)
      simp only [Nat.add_zero] at y0
      have HC2 : Hid (sumT s ks (k + 1) = c + cn) := Lib.hid (by rw [sumT_next hx, HC.out, hcn])
      have hw : wrap64 ((c : Int) + (cn : Int)) = ((c + cn : Nat) : Int) := by unfold wrap64; omega
      have HE := drew_below HBr
      have y1 : wr.drew.cell? ⟨b2, o2 + k * 2 + 1, none⟩ = some (.string (bOf y)) := (HE.cell (p := ⟨b2, _, none⟩) l2).trans (q2 k _ he 1 _ rfl)
      have HW := Lib.hid hw
      rcases (show k = 0 ∨ ∃ j, k = j + 1 from by cases k with | zero => exact Or.inl rfl | succ j => exact Or.inr ⟨j, rfl⟩) with hk0 | ⟨j, hkj⟩
      · have g0 : decide (0 < k) = false := decide_eq_false (by omega)
        have QD : (Below wF.heap.size wF wr.drew ∧ wr.drew.cell? ⟨b2, o2 + k * 2 + 1, none⟩ = some (.string (bOf y))) := ⟨HE, y1⟩
        clear hk0 hx he q2 hlx hcn y1 hw
        go_upto_region 9 with fail
        refine wp_region_noPanic ?_
        refine wp_region_held_drew (S := (fun w_ => Below wF.heap.size wF w_ ∧ w_.cell? ⟨b2, o2 + k * 2 + 1, none⟩ = some (.string (bOf y)))) (by kernel_rfl) ?_ (fun hHeld => ?_)
        · (first | with_reducible exact QD | assumption)
        refine tk 0 ⟨some 39, .move (.tmp 8), 3, "law.go:129", #[], none⟩ ?_; try simp only [Act.put, pz1, pz2, pz3]
        refine tk 1 ⟨some 40, .binOp .gtr 3 (.tmp 39) (.const (.int .i64 0)) 3, 4, "law.go:129", #[⟨0, .data⟩], none⟩ ?_; try simp only [Act.put, pz1, pz2, pz3]
        refine tk 2 ⟨some 41, .move (.tmp 40), 4, "law.go:129", #[⟨1, .data⟩], none⟩ ?_; try simp only [Act.put, pz1, pz2, pz3]
        refine tu 3 ⟨some 42, .move (.tmp 7), 29, "law.go:129", #[⟨2, .guard⟩], some (2, true)⟩ ?_
        try simp only [Act.put, pz1, pz2, pz3]
        refine tu 4 ⟨some 43, .move (.tmp 8), 3, "law.go:129", #[⟨2, .guard⟩], some (2, true)⟩ ?_
        try simp only [Act.put, pz1, pz2, pz3]
        refine tu 5 ⟨some 44, .indexAddr 29 (.tmp 42) (.tmp 43), 0, "law.go:129", #[⟨3, .data⟩, ⟨4, .data⟩, ⟨2, .guard⟩], some (2, true)⟩ ?_
        try simp only [Act.put, pz1, pz2, pz3]
        refine tu 6 ⟨some 45, .fieldAddr 50 (.tmp 44) 1, 0, "law.go:129", #[⟨5, .data⟩, ⟨2, .guard⟩], some (2, true)⟩ ?_
        try simp only [Act.put, pz1, pz2, pz3]
        refine tu 7 ⟨some 46, .load 9 (.tmp 45), 9, "law.go:129", #[⟨6, .data⟩, ⟨2, .guard⟩], some (2, true)⟩ ?_
        try simp only [Act.put, pz1, pz2, pz3]
        refine tu 8 ⟨some 47, .move (.tmp 7), 29, "law.go:129", #[⟨2, .guard⟩], some (2, true)⟩ ?_
        try simp only [Act.put, pz1, pz2, pz3]
        refine tu 9 ⟨some 48, .move (.tmp 8), 3, "law.go:129", #[⟨2, .guard⟩], some (2, true)⟩ ?_
        try simp only [Act.put, pz1, pz2, pz3]
        refine tu 10 ⟨some 49, .binOp .sub 3 (.tmp 48) (.const (.int .i64 1)) 3, 3, "law.go:129", #[⟨9, .data⟩, ⟨2, .guard⟩], some (2, true)⟩ ?_
        try simp only [Act.put, pz1, pz2, pz3]
        refine tu 11 ⟨some 50, .indexAddr 29 (.tmp 47) (.tmp 49), 0, "law.go:129", #[⟨8, .data⟩, ⟨10, .data⟩, ⟨2, .guard⟩], some (2, true)⟩ ?_
        try simp only [Act.put, pz1, pz2, pz3]
        refine tu 12 ⟨some 51, .fieldAddr 50 (.tmp 50) 1, 0, "law.go:129", #[⟨11, .data⟩, ⟨2, .guard⟩], some (2, true)⟩ ?_
        try simp only [Act.put, pz1, pz2, pz3]
        refine tu 13 ⟨some 52, .load 9 (.tmp 51), 9, "law.go:129", #[⟨12, .data⟩, ⟨2, .guard⟩], some (2, true)⟩ ?_
        try simp only [Act.put, pz1, pz2, pz3]
        refine tu 14 ⟨some 53, .binOp .leq 9 (.tmp 46) (.tmp 52) 9, 4, "law.go:129", #[⟨7, .data⟩, ⟨13, .data⟩, ⟨2, .guard⟩], some (2, true)⟩ ?_
        try simp only [Act.put, pz1, pz2, pz3]
        refine tk 15 ⟨some 54, .pick (.tmp 41) (.tmp 53) (.const (.bool false)), 4, "law.go:129", #[⟨2, .data⟩, ⟨14, .data⟩], none⟩ ?_; try simp only [Act.put, pz1, pz2, pz3]
        refine wpAnyH_done (by kernel_rfl) ?_ _
        refine NoPanic.normal ?_
        go_wp2_with fail
        go_roundw
        case rel => exact ⟨k + 1, c + cn, by omega, by go_num, (by go_num), by omega, HC2, (by first | exact HE | exact HBr)⟩
        case measure => simp [intOf]; omega
      · obtain ⟨x, hx1⟩ : ∃ x, ks[j]? = some x := ⟨_, List.getElem?_eq_getElem (by omega)⟩
        have he1 : ((ks.map (tagIt s)).map itC)[j]? = some (itC (tagIt s x)) := by rw [List.getElem?_map, List.getElem?_map, hx1]; rfl
        have x1 : wr.drew.cell? ⟨b2, o2 + j * 2 + 1, none⟩ = some (.string (bOf x)) := (HE.cell (p := ⟨b2, _, none⟩) l2).trans (q2 j _ he1 1 _ rfl)
        have hls : x < y := by
          obtain ⟨z1, z2⟩ := List.getElem?_eq_some_iff.1 hx1
          obtain ⟨z3, z4⟩ := List.getElem?_eq_some_iff.1 hx
          have := List.pairwise_iff_getElem.1 HKS.out.1 j k z1 z3 (by omega)
          rw [z2, z4] at this
          exact this
        obtain ⟨u1, u2⟩ := less_not2 hls
        have g0 : decide (0 < k) = true := decide_eq_true (by omega)
        have g1 : (k : Int) - 1 = (j : Int) := by omega
        have g2 : (j : Int) < (m : Int) := by omega
        have g3 : (0 : Int) ≤ (j : Int) := by omega
        have g4 : IntKind.i64.wrap (j : Int) = (j : Int) := wrapS _ (by omega) (by omega)
        have QD : (Below wF.heap.size wF wr.drew ∧ wr.drew.cell? ⟨b2, o2 + k * 2 + 1, none⟩ = some (.string (bOf y)) ∧ wr.drew.cell? ⟨b2, o2 + j * 2 + 1, none⟩ = some (.string (bOf x))) := ⟨HE, y1, x1⟩
        clear hkj hx hx1 he he1 q2 hlx hcn y1 x1 hls hw
        go_upto_region 9 with fail
        refine wp_region_noPanic ?_
        refine wp_region_held_drew (S := (fun w_ => Below wF.heap.size wF w_ ∧ w_.cell? ⟨b2, o2 + k * 2 + 1, none⟩ = some (.string (bOf y)) ∧ w_.cell? ⟨b2, o2 + j * 2 + 1, none⟩ = some (.string (bOf x)))) (by kernel_rfl) ?_ (fun hHeld => ?_)
        · (first | with_reducible exact QD | assumption)
        refine tk 0 ⟨some 39, .move (.tmp 8), 3, "law.go:129", #[], none⟩ ?_; try simp only [Act.put, pz1, pz2, pz3]
        refine tk 1 ⟨some 40, .binOp .gtr 3 (.tmp 39) (.const (.int .i64 0)) 3, 4, "law.go:129", #[⟨0, .data⟩], none⟩ ?_; try simp only [Act.put, pz1, pz2, pz3]
        refine tk 2 ⟨some 41, .move (.tmp 40), 4, "law.go:129", #[⟨1, .data⟩], none⟩ ?_; try simp only [Act.put, pz1, pz2, pz3]
        refine tk 3 ⟨some 42, .move (.tmp 7), 29, "law.go:129", #[⟨2, .guard⟩], some (2, true)⟩ ?_; try simp only [Act.put, pz1, pz2, pz3]
        refine tk 4 ⟨some 43, .move (.tmp 8), 3, "law.go:129", #[⟨2, .guard⟩], some (2, true)⟩ ?_; try simp only [Act.put, pz1, pz2, pz3]
        refine tk 5 ⟨some 44, .indexAddr 29 (.tmp 42) (.tmp 43), 0, "law.go:129", #[⟨3, .data⟩, ⟨4, .data⟩, ⟨2, .guard⟩], some (2, true)⟩ ?_; try simp only [Act.put, pz1, pz2, pz3]
        refine tk 6 ⟨some 45, .fieldAddr 50 (.tmp 44) 1, 0, "law.go:129", #[⟨5, .data⟩, ⟨2, .guard⟩], some (2, true)⟩ ?_; try simp only [Act.put, pz1, pz2, pz3]
        refine tk 7 ⟨some 46, .load 9 (.tmp 45), 9, "law.go:129", #[⟨6, .data⟩, ⟨2, .guard⟩], some (2, true)⟩ ?_; try simp only [Act.put, pz1, pz2, pz3]
        refine tk 8 ⟨some 47, .move (.tmp 7), 29, "law.go:129", #[⟨2, .guard⟩], some (2, true)⟩ ?_; try simp only [Act.put, pz1, pz2, pz3]
        refine tk 9 ⟨some 48, .move (.tmp 8), 3, "law.go:129", #[⟨2, .guard⟩], some (2, true)⟩ ?_; try simp only [Act.put, pz1, pz2, pz3]
        refine tk 10 ⟨some 49, .binOp .sub 3 (.tmp 48) (.const (.int .i64 1)) 3, 3, "law.go:129", #[⟨9, .data⟩, ⟨2, .guard⟩], some (2, true)⟩ ?_; try simp only [Act.put, pz1, pz2, pz3]
        refine tk 11 ⟨some 50, .indexAddr 29 (.tmp 47) (.tmp 49), 0, "law.go:129", #[⟨8, .data⟩, ⟨10, .data⟩, ⟨2, .guard⟩], some (2, true)⟩ ?_; try simp only [Act.put, pz1, pz2, pz3]
        refine tk 12 ⟨some 51, .fieldAddr 50 (.tmp 50) 1, 0, "law.go:129", #[⟨11, .data⟩, ⟨2, .guard⟩], some (2, true)⟩ ?_; try simp only [Act.put, pz1, pz2, pz3]
        refine tk 13 ⟨some 52, .load 9 (.tmp 51), 9, "law.go:129", #[⟨12, .data⟩, ⟨2, .guard⟩], some (2, true)⟩ ?_; try simp only [Act.put, pz1, pz2, pz3]
        refine tk 14 ⟨some 53, .binOp .leq 9 (.tmp 46) (.tmp 52) 9, 4, "law.go:129", #[⟨7, .data⟩, ⟨13, .data⟩, ⟨2, .guard⟩], some (2, true)⟩ ?_; try simp only [Act.put, pz1, pz2, pz3]
        refine tk 15 ⟨some 54, .pick (.tmp 41) (.tmp 53) (.const (.bool false)), 4, "law.go:129", #[⟨2, .data⟩, ⟨14, .data⟩], none⟩ ?_; try simp only [Act.put, pz1, pz2, pz3]
        refine wpAnyH_done (by kernel_rfl) ?_ _
        refine NoPanic.normal ?_
        go_wp2_with fail
        go_roundw
        case rel => exact ⟨k + 1, c + cn, by omega, by go_num, (by go_num), by omega, HC2, (by first | exact HE | exact HBr)⟩
        case measure => simp [intOf]; omega
    · obtain rfl : m = k := by omega
      have HC9 : Hid (c = (tagsA s).length) := Lib.hid (by have h := sumT_all HKS.out.1 HKS.out.2.1; rw [HMK.out, HC.out] at h; exact h)
      have HB9 := HBr
      clear hlt HBr rt HC
      go_wp2_with fail
      go_loopw [6, 9] (fun sv i wr => ∃ k d : Nat, k ≤ n ∧ i = .int .i64 k ∧ sv = .int .i64 d ∧ d ≤ 4 * k ∧ Hid (((s.ts.take k).flatMap fun n => n.tg).length = d) ∧ Below wF.heap.size wF wr) (fun _ i _ => n - (intOf i).toNat)
      case atStart => exact ⟨0, 0, by omega, rfl, rfl, by omega, Lib.hid rfl, HB9⟩
      case round =>
        obtain ⟨k, d, hk, rfl, rfl, hdk, HD, HBr⟩ := hrel
        clear HB9
        have k4 := (B1q.below HBr B1q.lt).cell_ 4
        simp at k4
        by_cases hlt : k < n
        · have hlx : k < s.ts.length := by have := HN.out; omega
          have i0 : (0 : Int) ≤ (k : Int) := by omega
          have i1 : (k : Int) < (n : Int) := by omega
          obtain ⟨y, hx⟩ : ∃ y, s.ts[k]? = some y := ⟨_, List.getElem?_eq_getElem hlx⟩
          have hy4 := (HFF.out.note (List.mem_of_getElem? hx)).1
          obtain ⟨e0, he⟩ : ∃ e, es[k]? = some e := ⟨_, List.getElem?_eq_getElem (by have := HEL.out; omega)⟩
          obtain ⟨At, ct, As, cs, rfl, hyt, -⟩ := (hnt k y e0 hx he).ex
          obtain ⟨b1, o1, rfl, l1, q1⟩ := hse.at_ (by have := HEL.out; omega)
          obtain ⟨yt, hyt2⟩ : ∃ n, y.tg.length = n := ⟨_, rfl⟩
          have HBw := btr hB0 hB0.size HBr
          have y3 : wr.cell? ⟨b1, o1 + k * 5 + 3, none⟩ = some (.slice At yt ct) := by
            rw [← hyt2]
            exact (HBw.cell (p := ⟨b1, _, none⟩) l1).trans (q1 k _ he 3 _ rfl)
          have HD2 : Hid (((s.ts.take (k + 1)).flatMap fun n => n.tg).length = d + yt) := Lib.hid (by rw [List.take_add_one, hx, List.flatMap_append, List.length_append, HD.out]; simp [hyt2])
          rw [hyt2] at hy4
          clear hx he q1 hlx hyt hyt2
          go_wp2_with fail
          go_roundw
          case rel => exact ⟨k + 1, d + yt, by omega, by go_num, by go_num, by omega, HD2, HBr⟩
          case measure => simp [intOf]; omega
        · obtain rfl : n = k := by omega
          have hcd : c = d := by
            have h1 := HC9.out
            have h2 := HD.out
            rw [List.take_of_length_le (by rw [HN.out]; exact Nat.le_refl _)] at h2
            have h3 : (tagsA s).length = d := h2
            rw [h1, h3]
          subst hcd
          rcases Nat.eq_zero_or_pos n with hz | hz
          · have hm0 : m = 0 := by
              have h1 : s.ts = [] := List.eq_nil_of_length_eq_zero (by rw [HN.out]; exact hz)
              have h2 : ks = [] := by
                cases hk2 : ks with
                | nil => rfl
                | cons x l =>
                  have h3 := (HKS.out.2.1 x).1 (by rw [hk2]; simp)
                  unfold tagsA at h3
                  rw [h1] at h3
                  simp at h3
              rw [← HMK.out, h2]
              rfl
            subst hz
            subst hm0
            have HB := btr hB0 hB0.size HBr
            have T1 := hT0.next HBr
            clear hlt
            go_wp2_with (go_at_call 10; ((with_reducible refine (awakeK_any _ T1).mono ?_); rintro e' w9 ⟨rfl, b9⟩; have HB := btr HB HB.size b9; clear b9))
            go_ret
            exact ⟨rfl, HB⟩
          · have hnz : ¬ n = 0 := by omega
            have hnz2 : ¬ (n : Int) = 0 := by omega
            obtain ⟨kx, hkx⟩ : ∃ kx : Nat, lowI which (n : Int) = (kx : Int) := ⟨(lowI which (n : Int)).toNat, by have := (lowI_bd which (n : Int) (by omega)).1; omega⟩
            have hkn : kx < n := by have := (lowI_bd which (n : Int) (by omega)).2; omega
            have HLO := Lib.hid hkx
            obtain ⟨X, hX⟩ : ∃ y, s.ts[kx]? = some y := ⟨_, List.getElem?_eq_getElem (by have := HN.out; omega)⟩
            have hXm := List.mem_of_getElem? hX
            obtain ⟨e0, he⟩ : ∃ e, es[kx]? = some e := ⟨_, List.getElem?_eq_getElem (by have := HEL.out; have := HN.out; omega)⟩
            obtain ⟨At, ct, As, cs, rfl, -, -⟩ := (hnt kx X e0 hX he).ex
            obtain ⟨b1, o1, rfl, l1, q1⟩ := hse.at_ (by have := HEL.out; omega)
            obtain ⟨yt, hyt⟩ : ∃ n, X.tg.length = n := ⟨_, rfl⟩
            obtain ⟨ys, hys⟩ : ∃ n, X.sh.length = n := ⟨_, rfl⟩
            have HYT := Lib.hid hyt
            have HXM := Lib.hid hXm
            have HALL : Hid (∀ w_, Below wr.heap.size wr w_ → w_.cell? ⟨w.heap.size, 4, none⟩ = some (.slice (some ⟨b1, o1, none⟩) n cn) ∧ w_.cell? ⟨b1, o1 + kx * 5, none⟩ = some (.int .i64 X.id) ∧ w_.cell? ⟨b1, o1 + kx * 5 + 1, none⟩ = some (.int .i64 X.bk) ∧ w_.cell? ⟨b1, o1 + kx * 5 + 2, none⟩ = some (.string X.nm) ∧ w_.cell? ⟨b1, o1 + kx * 5 + 3, none⟩ = some (.slice At yt ct) ∧ w_.cell? ⟨b1, o1 + kx * 5 + 4, none⟩ = some (.slice As ys cs)) := Lib.hid (fun w_ h => by
              have hbw := btr (btr hB0 hB0.size HBr) (btr hB0 hB0.size HBr).size h
              have k9 := (B1q.below (btr HBr HBr.size h) B1q.lt).cell_ 4
              simp at k9
              rw [← hyt, ← hys]
              exact ⟨k9, (hbw.cell (p := ⟨b1, _, none⟩) l1).trans (q1 kx _ he 0 _ rfl), (hbw.cell (p := ⟨b1, _, none⟩) l1).trans (q1 kx _ he 1 _ rfl), (hbw.cell (p := ⟨b1, _, none⟩) l1).trans (q1 kx _ he 2 _ rfl), (hbw.cell (p := ⟨b1, _, none⟩) l1).trans (q1 kx _ he 3 _ rfl), (hbw.cell (p := ⟨b1, _, none⟩) l1).trans (q1 kx _ he 4 _ rfl)⟩)
            have QD : (Below wr.heap.size wr wr.drew ∧ wr.drew.cell? ⟨w.heap.size, 4, none⟩ = some (.slice (some ⟨b1, o1, none⟩) n cn) ∧ wr.drew.cell? ⟨b1, o1 + kx * 5, none⟩ = some (.int .i64 X.id) ∧ wr.drew.cell? ⟨b1, o1 + kx * 5 + 1, none⟩ = some (.int .i64 X.bk) ∧ wr.drew.cell? ⟨b1, o1 + kx * 5 + 2, none⟩ = some (.string X.nm) ∧ wr.drew.cell? ⟨b1, o1 + kx * 5 + 3, none⟩ = some (.slice At yt ct) ∧ wr.drew.cell? ⟨b1, o1 + kx * 5 + 4, none⟩ = some (.slice As ys cs)) := ⟨drew_below (Below.refl _ wr), HALL.out _ (drew_below (Below.refl _ wr))⟩
            have j0 : (0 : Int) ≤ (kx : Int) := by omega
            have j1 : (kx : Int) < (n : Int) := by omega
            clear hkx hX he q1 hXm hyt hys hlt
            go_upto_region 19 with fail
            go_cut [10] (fun v wx => ∃ g, v = .pointer (some ⟨g, 0, none⟩) ∧ Blk wx g 54 #[.int .i64 X.id, .int .i64 X.bk, .string X.nm, .slice At yt ct, .slice As ys cs] ∧ Below wr.heap.size wr wx)
            case first =>
              refine wp_region_noPanic ?_
              refine wp_region_held_drew (S := (fun w_ => Below wr.heap.size wr w_ ∧ w_.cell? ⟨w.heap.size, 4, none⟩ = some (.slice (some ⟨b1, o1, none⟩) n cn) ∧ w_.cell? ⟨b1, o1 + kx * 5, none⟩ = some (.int .i64 X.id) ∧ w_.cell? ⟨b1, o1 + kx * 5 + 1, none⟩ = some (.int .i64 X.bk) ∧ w_.cell? ⟨b1, o1 + kx * 5 + 2, none⟩ = some (.string X.nm) ∧ w_.cell? ⟨b1, o1 + kx * 5 + 3, none⟩ = some (.slice At yt ct) ∧ w_.cell? ⟨b1, o1 + kx * 5 + 4, none⟩ = some (.slice As ys cs))) (by kernel_rfl) ?_ (fun hHeld => ?_)
              · (first | with_reducible exact QD | exact ⟨hHeld.1.alloc hHeld.1.size _, HALL.out _ (hHeld.1.alloc hHeld.1.size _)⟩ | exact ⟨QD.1.alloc QD.1.size _, HALL.out _ (QD.1.alloc QD.1.size _)⟩ | exact ⟨drew_below ((Below.refl _ wr).alloc (Nat.le_refl _) _), HALL.out _ (drew_below ((Below.refl _ wr).alloc (Nat.le_refl _) _))⟩ | assumption)
              refine tk 0 ⟨some 84, .fieldAddr 25 (.tmp 2) 4, 0, "law.go:142", #[], none⟩ ?_; try simp only [Act.put, pz1, pz2, pz3]
              refine tk 1 ⟨some 85, .load 23 (.tmp 84), 23, "law.go:142", #[⟨0, .data⟩], none⟩ ?_; try simp only [Act.put, pz1, pz2, pz3]
              refine tk 2 ⟨some 86, .move (.tmp 1), 3, "law.go:142", #[], none⟩ ?_; try simp only [Act.put, pz1, pz2, pz3]
              refine tk 3 ⟨some 87, .fieldAddr 25 (.tmp 2) 4, 0, "law.go:142", #[], none⟩ ?_; try simp only [Act.put, pz1, pz2, pz3]
              refine tk 4 ⟨some 88, .load 23 (.tmp 87), 23, "law.go:142", #[⟨3, .data⟩], none⟩ ?_; try simp only [Act.put, pz1, pz2, pz3]
              refine tk 5 ⟨some 89, .call { callee := .builtin .len, args := #[.tmp 88], argTypes := #[23] }, 3, "law.go:142", #[⟨4, .data⟩], none⟩ ?_; try simp only [Act.put, pz1, pz2, pz3]
              refine wpAnyH_ready (rs := [6, 9]) (by kernel_rfl) (by simp) ?_
              refine (AllReadyH.cons (o := ⟨some 90, .call { callee := .value (.func 31), args := #[.tmp 86, .tmp 89], argTypes := #[3, 3] }, 3, "law.go:142", #[⟨2, .data⟩, ⟨5, .data⟩], none⟩) rfl (fun K hK => ?_) (AllReadyH.cons (o := ⟨some 10, .alloc 54, 0, "law.go:142", #[], none⟩) rfl (fun K hK => ?_) AllReadyH.nil))
              · go_simp
                (go_at_call 31; ((with_reducible refine (low_any which (n : Int) _ (by omega) (by omega)).mono ?_); rw [HLO.out]; rintro e' wL ⟨rfl, rfl⟩))
                go_wp2_with fail
                refine hK.out _ _ ?_ (fun hNew => ?_)
                · (first | with_reducible exact QD | exact ⟨hHeld.1.alloc hHeld.1.size _, HALL.out _ (hHeld.1.alloc hHeld.1.size _)⟩ | exact ⟨QD.1.alloc QD.1.size _, HALL.out _ (QD.1.alloc QD.1.size _)⟩ | exact ⟨drew_below ((Below.refl _ wr).alloc (Nat.le_refl _) _), HALL.out _ (drew_below ((Below.refl _ wr).alloc (Nat.le_refl _) _))⟩ | assumption)
                clear hK K hHeld
                have hHeld := hNew
                clear hNew
                try simp only [Act.put, pz1, pz2, pz3]
                refine tk 7 ⟨some 91, .indexAddr 23 (.tmp 85) (.tmp 90), 0, "law.go:142", #[⟨1, .data⟩, ⟨6, .data⟩], none⟩ ?_; try simp only [Act.put, pz1, pz2, pz3]
                refine tk 8 ⟨some 92, .load 54 (.tmp 91), 54, "law.go:142", #[⟨7, .data⟩], none⟩ ?_; try simp only [Act.put, pz1, pz2, pz3]
                refine wpAnyH_ready (rs := [9]) (by kernel_rfl) (by simp) ?_
                refine AllReadyH.cons (o := ⟨some 10, .alloc 54, 0, "law.go:142", #[], none⟩) rfl (fun K hK => ?_) AllReadyH.nil
                go_simp
                refine hK.out _ _ ?_ (fun hNew => ?_)
                · (first | with_reducible exact QD | exact ⟨hHeld.1.alloc hHeld.1.size _, HALL.out _ (hHeld.1.alloc hHeld.1.size _)⟩ | exact ⟨QD.1.alloc QD.1.size _, HALL.out _ (QD.1.alloc QD.1.size _)⟩ | exact ⟨drew_below ((Below.refl _ wr).alloc (Nat.le_refl _) _), HALL.out _ (drew_below ((Below.refl _ wr).alloc (Nat.le_refl _) _))⟩ | assumption)
                clear hK K hHeld
                have hHeld := hNew
                clear hNew
                try simp only [Act.put, pz1, pz2, pz3]
                refine wpAnyH_ready (rs := [10]) (by kernel_rfl) (by simp) ?_
                refine AllReadyH.cons (o := ⟨none, .store 54 (.tmp 10) (.tmp 92), 0, "law.go:142", #[⟨9, .data⟩, ⟨8, .data⟩, ⟨6, .chain⟩, ⟨0, .phase⟩, ⟨1, .phase⟩, ⟨2, .phase⟩, ⟨3, .phase⟩, ⟨4, .phase⟩, ⟨5, .phase⟩, ⟨6, .phase⟩, ⟨7, .phase⟩, ⟨8, .phase⟩, ⟨9, .phase⟩], none⟩) rfl (fun K hK => ?_) AllReadyH.nil
                go_simp
                refine hK.out _ _ ?_ (fun hNew => ?_)
                · (first | with_reducible exact QD | exact ⟨hHeld.1.alloc hHeld.1.size _, HALL.out _ (hHeld.1.alloc hHeld.1.size _)⟩ | exact ⟨QD.1.alloc QD.1.size _, HALL.out _ (QD.1.alloc QD.1.size _)⟩ | exact ⟨drew_below ((Below.refl _ wr).alloc (Nat.le_refl _) _), HALL.out _ (drew_below ((Below.refl _ wr).alloc (Nat.le_refl _) _))⟩ | assumption)
                clear hK K hHeld
                have hHeld := hNew
                clear hNew
                try simp only [Act.put, pz1, pz2, pz3]
                refine wpAnyH_done (by kernel_rfl) ?_ _
                refine NoPanic.normal ?_
                go_wp2_with fail
                go_meet
                (first | exact ⟨_, rfl, Blk.new_ _ _ _, hHeld.1⟩ | exact ⟨_, rfl, drew_blk (Blk.new_ _ _ _), hHeld.1⟩)
              · go_simp
                refine hK.out _ _ ?_ (fun hNew => ?_)
                · (first | with_reducible exact QD | exact ⟨hHeld.1.alloc hHeld.1.size _, HALL.out _ (hHeld.1.alloc hHeld.1.size _)⟩ | exact ⟨QD.1.alloc QD.1.size _, HALL.out _ (QD.1.alloc QD.1.size _)⟩ | exact ⟨drew_below ((Below.refl _ wr).alloc (Nat.le_refl _) _), HALL.out _ (drew_below ((Below.refl _ wr).alloc (Nat.le_refl _) _))⟩ | assumption)
                clear hK K hHeld
                have hHeld := hNew
                clear hNew
                try simp only [Act.put, pz1, pz2, pz3]
                refine wpAnyH_ready (rs := [6]) (by kernel_rfl) (by simp) ?_
                refine AllReadyH.cons (o := ⟨some 90, .call { callee := .value (.func 31), args := #[.tmp 86, .tmp 89], argTypes := #[3, 3] }, 3, "law.go:142", #[⟨2, .data⟩, ⟨5, .data⟩], none⟩) rfl (fun K hK => ?_) AllReadyH.nil
                go_simp
                (go_at_call 31; ((with_reducible refine (low_any which (n : Int) _ (by omega) (by omega)).mono ?_); rw [HLO.out]; rintro e' wL ⟨rfl, rfl⟩))
                go_wp2_with fail
                refine hK.out _ _ ?_ (fun hNew => ?_)
                · (first | with_reducible exact QD | exact ⟨hHeld.1.alloc hHeld.1.size _, HALL.out _ (hHeld.1.alloc hHeld.1.size _)⟩ | exact ⟨QD.1.alloc QD.1.size _, HALL.out _ (QD.1.alloc QD.1.size _)⟩ | exact ⟨drew_below ((Below.refl _ wr).alloc (Nat.le_refl _) _), HALL.out _ (drew_below ((Below.refl _ wr).alloc (Nat.le_refl _) _))⟩ | assumption)
                clear hK K hHeld
                have hHeld := hNew
                clear hNew
                try simp only [Act.put, pz1, pz2, pz3]
                refine tk 7 ⟨some 91, .indexAddr 23 (.tmp 85) (.tmp 90), 0, "law.go:142", #[⟨1, .data⟩, ⟨6, .data⟩], none⟩ ?_; try simp only [Act.put, pz1, pz2, pz3]
                refine tk 8 ⟨some 92, .load 54 (.tmp 91), 54, "law.go:142", #[⟨7, .data⟩], none⟩ ?_; try simp only [Act.put, pz1, pz2, pz3]
                refine wpAnyH_ready (rs := [10]) (by kernel_rfl) (by simp) ?_
                refine AllReadyH.cons (o := ⟨none, .store 54 (.tmp 10) (.tmp 92), 0, "law.go:142", #[⟨9, .data⟩, ⟨8, .data⟩, ⟨6, .chain⟩, ⟨0, .phase⟩, ⟨1, .phase⟩, ⟨2, .phase⟩, ⟨3, .phase⟩, ⟨4, .phase⟩, ⟨5, .phase⟩, ⟨6, .phase⟩, ⟨7, .phase⟩, ⟨8, .phase⟩, ⟨9, .phase⟩], none⟩) rfl (fun K hK => ?_) AllReadyH.nil
                go_simp
                refine hK.out _ _ ?_ (fun hNew => ?_)
                · (first | with_reducible exact QD | exact ⟨hHeld.1.alloc hHeld.1.size _, HALL.out _ (hHeld.1.alloc hHeld.1.size _)⟩ | exact ⟨QD.1.alloc QD.1.size _, HALL.out _ (QD.1.alloc QD.1.size _)⟩ | exact ⟨drew_below ((Below.refl _ wr).alloc (Nat.le_refl _) _), HALL.out _ (drew_below ((Below.refl _ wr).alloc (Nat.le_refl _) _))⟩ | assumption)
                clear hK K hHeld
                have hHeld := hNew
                clear hNew
                try simp only [Act.put, pz1, pz2, pz3]
                refine wpAnyH_done (by kernel_rfl) ?_ _
                refine NoPanic.normal ?_
                go_wp2_with fail
                go_meet
                (first | exact ⟨_, rfl, Blk.new_ _ _ _, hHeld.1⟩ | exact ⟨_, rfl, drew_blk (Blk.new_ _ _ _), hHeld.1⟩)
            case rest =>
              obtain ⟨g, rfl, BX, HBx⟩ := hcut
              have HBz := btr HBr HBr.size HBx
              have HB := btr hB0 hB0.size HBz
              have S1 := hS3.next HBz
              have T1 := hT0.next HBz
              have B1 := B1q.below HBz B1q.lt
              clear HBx HBr QD HALL k4 hnz hnz2
              obtain ⟨k0, k1, k2, k3, k4⟩ := cell5 B1
              obtain ⟨x0, x1, x2, x3, x4⟩ := cell5 BX
              clear HBz
              go_upto_region 21 with (go_at_call 14; ((with_reducible refine (kin_go s _ X _ S1 T1 HM.out HXM.out).mono ?_); rintro e' wk ⟨Ak, ck, its, rfl, HIT0, hl12, rk, b6⟩; have HIT := Lib.hid HIT0; clear HIT0; have S1 := S1.next b6; have T1 := T1.next b6; have B1 := B1.below b6 B1.lt; have HB := btr HB HB.size b6; have BX := BX.below b6 BX.lt; (clear k0 k1 k2 k3 k4 x0 x1 x2 x3 x4); obtain ⟨k0, k1, k2, k3, k4⟩ := cell5 B1; obtain ⟨x0, x1, x2, x3, x4⟩ := cell5 BX; clear b6))
              obtain ⟨l, hl⟩ : ∃ l, its.length = l := ⟨_, rfl⟩
              rw [hl]
              have hyl : yt = 0 → l = 0 := fun h0 => by
                have h1 : X.tg = [] := List.eq_nil_of_length_eq_zero (by rw [HYT.out]; exact h0)
                cases hq : its with
                | nil => rw [← hl, hq]; rfl
                | cons y r =>
                  obtain ⟨m2, _, h3, _⟩ := (HIT.out y).1 (by rw [hq]; simp)
                  unfold kinB at h3
                  rw [h1, Bool.and_eq_true] at h3
                  have h4 := of_decide_eq_true h3.1
                  exact absurd h4 (Nat.lt_irrefl 0)
              have hl12' : l ≤ 12 := by rw [← hl]; exact hl12
              have HL := Lib.hid hl
              clear hl hl12
              obtain ⟨wG, hwG⟩ : ∃ V, V = wk := ⟨_, rfl⟩
              rw [← hwG] at HB S1 T1 B1 BX rk x0 x1 x2 x3 x4 k0 k1 k2 k3 k4 ⊢
              clear hwG
              go_cut [112] (fun v wx => v = .bool false ∧ wx = wG)
              case first =>
                rcases Nat.eq_zero_or_pos yt with hy | hy
                · obtain rfl := hyl hy
                  subst hy
                  go_wp2_with fail
                  go_meet
                  exact ⟨by first | rfl | trivial, by first | rfl | trivial⟩
                · have z1 : ¬ yt = 0 := by omega
                  have z2 : ¬ (yt : Int) = 0 := by omega
                  clear hyl
                  go_wp2_with fail
                  go_meet
                  exact ⟨by first | rfl | trivial, by first | rfl | trivial⟩
              case rest =>
                obtain ⟨rfl, hwc⟩ := hcut
                rw [hwc]
                clear hyl hwc
                have HB5 := HB
                have T5 := T1
                have S5 := S1
                have B1w := B1
                have BXw := BX
                clear HB T1 S1 B1 BX x0 x1 x2 x3 x4 k0 k1 k2 k3 k4
                go_wp2_with fail
                go_loopw [13] (fun i wr => ∃ k : Nat, k ≤ l ∧ i = .int .i64 k ∧ Below wG.heap.size wG wr) (fun i _ => l - (intOf i).toNat)
                case atStart => exact ⟨0, by omega, rfl, Below.refl _ _⟩
                case round =>
                  obtain ⟨k, hk, rfl, HBr⟩ := hrel
                  by_cases hlt : k < l
                  · have hlx : k < its.length := by have := HL.out; omega
                    have i0 : (0 : Int) ≤ (k : Int) := by omega
                    have i1 : (k : Int) < (l : Int) := by omega
                    obtain ⟨y, hx⟩ : ∃ y, its[k]? = some y := ⟨_, List.getElem?_eq_getElem hlx⟩
                    obtain ⟨m2, hm2, hkb, rfl⟩ := (HIT.out y).1 (List.mem_of_getElem? hx)
                    obtain ⟨hkb2, hidn⟩ := kinB_back (s := s) hkb
                    obtain ⟨b3, o3, rfl, l3, q3⟩ := rk.at_ (by rw [List.length_map]; omega)
                    have he : (its.map itC)[k]? = some (itC (ntIt m2)) := by rw [List.getElem?_map, hx]; rfl
                    have HROW : Hid (∀ w_, Below wG.heap.size wG w_ → w_.cell? ⟨b3, o3 + k * 2, none⟩ = some (.int .i64 m2.id)) := Lib.hid (fun w_ h => (h.cell (p := ⟨b3, _, none⟩) l3).trans (q3 k _ he 0 _ rfl))
                    have HALL2 : Hid (∀ w_, Below wG.heap.size wG w_ → w_.cell? ⟨w.heap.size, 0, none⟩ = some (.int .i64 s.nb) ∧ w_.cell? ⟨w.heap.size, 1, none⟩ = some (.int .i64 s.nn) ∧ w_.cell? ⟨w.heap.size, 2, none⟩ = some (.int .i64 s.ns) ∧ w_.cell? ⟨w.heap.size, 3, none⟩ = some (.slice Ab bn cb) ∧ w_.cell? ⟨w.heap.size, 4, none⟩ = some (.slice (some ⟨b1, o1, none⟩) n cn) ∧ w_.cell? ⟨b3, o3 + k * 2, none⟩ = some (.int .i64 m2.id)) := Lib.hid (fun w_ h => by
                      obtain ⟨a0, a1, a2, a3, a4⟩ := cell5 (B1w.below h B1w.lt)
                      exact ⟨a0, a1, a2, a3, a4, HROW.out _ h⟩)
                    have HSH := Lib.hid (fun (w_ : World) (h : Below wG.heap.size wG w_) => And.intro (S5.next h) (T5.next h))
                    have HE := drew_below HBr
                    have QD : (Below wG.heap.size wG wr.drew ∧ wr.drew.cell? ⟨w.heap.size, 0, none⟩ = some (.int .i64 s.nb) ∧ wr.drew.cell? ⟨w.heap.size, 1, none⟩ = some (.int .i64 s.nn) ∧ wr.drew.cell? ⟨w.heap.size, 2, none⟩ = some (.int .i64 s.ns) ∧ wr.drew.cell? ⟨w.heap.size, 3, none⟩ = some (.slice Ab bn cb) ∧ wr.drew.cell? ⟨w.heap.size, 4, none⟩ = some (.slice (some ⟨b1, o1, none⟩) n cn) ∧ wr.drew.cell? ⟨b3, o3 + k * 2, none⟩ = some (.int .i64 m2.id)) := ⟨HE, HALL2.out _ HE⟩
                    have HM2 := Lib.hid hm2
                    have HK2 := Lib.hid hkb2
                    have HBrr := Lib.hid HBr
                    clear hx he q3 hlx hm2 hkb hkb2
                    go_upto_region 26 with fail
                    go_cut [14, 15] (fun v1 v2 wx => ∃ (A : Option Addr) (c : Nat) (bk : List It), v1 = .slice A bk.length c ∧ v2 = .int .i64 0 ∧ Hid (∀ y, y ∈ bk ↔ ∃ m ∈ s.ts, kinB m2 m2.id m = true ∧ ntIt m = y) ∧ bk.length ≤ 12 ∧ SlE 2 wx wx.heap.size A (bk.map itC) ∧ Below wG.heap.size wG wx)
                    case first =>
                      refine wp_region_noPanic ?_
                      refine wp_region_held_drew (S := (fun w_ => Below wG.heap.size wG w_ ∧ w_.cell? ⟨w.heap.size, 0, none⟩ = some (.int .i64 s.nb) ∧ w_.cell? ⟨w.heap.size, 1, none⟩ = some (.int .i64 s.nn) ∧ w_.cell? ⟨w.heap.size, 2, none⟩ = some (.int .i64 s.ns) ∧ w_.cell? ⟨w.heap.size, 3, none⟩ = some (.slice Ab bn cb) ∧ w_.cell? ⟨w.heap.size, 4, none⟩ = some (.slice (some ⟨b1, o1, none⟩) n cn) ∧ w_.cell? ⟨b3, o3 + k * 2, none⟩ = some (.int .i64 m2.id))) (by kernel_rfl) ?_ (fun hHeld => ?_)
                      · (first | with_reducible exact QD | with_reducible exact hNext | assumption)
                      refine tk 0 ⟨some 120, .load 25 (.tmp 2), 25, "law.go:148", #[], none⟩ ?_; try simp only [Act.put, pz1, pz2, pz3]
                      refine tk 1 ⟨some 121, .move (.tmp 11), 29, "law.go:148", #[], none⟩ ?_; try simp only [Act.put, pz1, pz2, pz3]
                      refine tk 2 ⟨some 122, .move (.tmp 13), 3, "law.go:148", #[], none⟩ ?_; try simp only [Act.put, pz1, pz2, pz3]
                      refine tk 3 ⟨some 123, .indexAddr 29 (.tmp 121) (.tmp 122), 0, "law.go:148", #[⟨1, .data⟩, ⟨2, .data⟩], none⟩ ?_; try simp only [Act.put, pz1, pz2, pz3]
                      refine tk 4 ⟨some 124, .fieldAddr 50 (.tmp 123) 0, 0, "law.go:148", #[⟨3, .data⟩], none⟩ ?_; try simp only [Act.put, pz1, pz2, pz3]
                      refine tk 5 ⟨some 125, .load 3 (.tmp 124), 3, "law.go:148", #[⟨4, .data⟩], none⟩ ?_; try simp only [Act.put, pz1, pz2, pz3]
                      refine wpAnyH_ready (rs := [6]) (by kernel_rfl) (by simp) ?_
                      refine AllReadyH.cons (o := ⟨some 126, .call { callee := .value (.func 14), args := #[.tmp 120, .tmp 125], argTypes := #[25, 3] }, 31, "law.go:148", #[⟨0, .data⟩, ⟨5, .data⟩], none⟩) rfl (fun K hK => ?_) AllReadyH.nil
                      go_simp
                      (go_at_call 14; ((with_reducible refine (kin_go s _ m2 _ (HSH.out _ hHeld.1).1 (HSH.out _ hHeld.1).2 HM.out HM2.out).mono ?_); rintro e' w6 ⟨A8, c8, bk, rfl, hI0, hb12, rb, b7⟩; have hI := Lib.hid hI0; clear hI0; have HZ := btr hHeld.1 hHeld.1.size b7; have hNext : (Below wG.heap.size wG w6 ∧ w6.cell? ⟨w.heap.size, 0, none⟩ = some (.int .i64 s.nb) ∧ w6.cell? ⟨w.heap.size, 1, none⟩ = some (.int .i64 s.nn) ∧ w6.cell? ⟨w.heap.size, 2, none⟩ = some (.int .i64 s.ns) ∧ w6.cell? ⟨w.heap.size, 3, none⟩ = some (.slice Ab bn cb) ∧ w6.cell? ⟨w.heap.size, 4, none⟩ = some (.slice (some ⟨b1, o1, none⟩) n cn) ∧ w6.cell? ⟨b3, o3 + k * 2, none⟩ = some (.int .i64 m2.id)) := ⟨HZ, HALL2.out _ HZ⟩))
                      go_wp2_with fail
                      refine hK.out _ _ ?_ (fun hNew => ?_)
                      · (first | with_reducible exact QD | with_reducible exact hNext | assumption)
                      clear hK K hHeld
                      have hHeld := hNew
                      clear hNew
                      try simp only [Act.put, pz1, pz2, pz3]
                      refine tk 7 ⟨some 119, .move (.tmp 126), 31, "law.go:148", #[⟨6, .data⟩], none⟩ ?_; try simp only [Act.put, pz1, pz2, pz3]
                      refine tk 8 ⟨some 127, .extract (.tmp 119) 0, 29, "law.go:148", #[⟨7, .data⟩], none⟩ ?_; try simp only [Act.put, pz1, pz2, pz3]
                      refine tk 9 ⟨some 128, .extract (.tmp 119) 1, 30, "law.go:148", #[⟨7, .data⟩, { on := 10, ground := Ground.gcOnly Departure.lateStores }], none⟩ ?_; try simp only [Act.put, pz1, pz2, pz3]
                      refine tk 10 ⟨some 14, .assign (.tmp 127), 29, "law.go:148", #[⟨8, .data⟩, ⟨6, .chain⟩, ⟨0, .phase⟩, ⟨1, .phase⟩, ⟨2, .phase⟩, ⟨3, .phase⟩, ⟨4, .phase⟩, ⟨5, .phase⟩, ⟨6, .phase⟩, ⟨7, .phase⟩, ⟨8, .phase⟩, { on := 9, ground := Ground.textOnly Departure.lateStores }], none⟩ ?_; try simp only [Act.put, pz1, pz2, pz3]
                      refine tk 11 ⟨some 15, .assign (.tmp 128), 30, "law.go:148", #[⟨9, .data⟩, ⟨10, .chain⟩, ⟨0, .phase⟩, ⟨1, .phase⟩, ⟨2, .phase⟩, ⟨3, .phase⟩, ⟨4, .phase⟩, ⟨5, .phase⟩, ⟨6, .phase⟩, ⟨7, .phase⟩, ⟨8, .phase⟩, ⟨9, .phase⟩, ⟨10, .phase⟩], none⟩ ?_; try simp only [Act.put, pz1, pz2, pz3]
                      refine wpAnyH_done (by kernel_rfl) ?_ _
                      refine NoPanic.normal ?_
                      go_wp2_with fail
                      go_meet
                      exact ⟨_, _, bk, rfl, rfl, hI, hb12, (by first | exact rb | exact SlE.next rb (below_dr _)), hHeld.1⟩
                    case rest =>
                      obtain ⟨A9, c9, bk, rfl, rfl, HBK, hb12, rb, HBx⟩ := hcut
                      obtain ⟨lb, hlb⟩ : ∃ l, bk.length = l := ⟨_, rfl⟩
                      rw [hlb] at hb12 ⊢
                      have HIN : Hid (∀ w_, Below wc.heap.size wc w_ → Calls Tryz.prog 30 #[.slice A9 lb c9, .agg #[.int .i64 X.id, .string X.nm]] w_ fun e' w' => e' = .returned (.bool true) ∧ Below w_.heap.size w_ w') := Lib.hid (fun w_ h => in_go bk A9 lb c9 (ntIt X) w_ hlb (SlE.next rb h) (by omega) true (in_true ((HBK.out _).2 ⟨X, HXM.out, HK2.out, rfl⟩)))
                      have HALL3 : Hid (∀ w_, Below wG.heap.size wG w_ → w_.cell? ⟨b3, o3 + k * 2, none⟩ = some (.int .i64 m2.id) ∧ w_.cell? ⟨g, 0, none⟩ = some (.int .i64 X.id) ∧ w_.cell? ⟨g, 2, none⟩ = some (.string X.nm)) := Lib.hid (fun w_ h => by
                        obtain ⟨a0, a1, a2, a3, a4⟩ := cell5 (BXw.below h BXw.lt)
                        exact ⟨HROW.out _ h, a0, a2⟩)
                      have HZ0 := drew_below HBx
                      have QE : (Below wG.heap.size wG wc.drew ∧ Below wc.heap.size wc wc.drew ∧ wc.drew.cell? ⟨b3, o3 + k * 2, none⟩ = some (.int .i64 m2.id) ∧ wc.drew.cell? ⟨g, 0, none⟩ = some (.int .i64 X.id) ∧ wc.drew.cell? ⟨g, 2, none⟩ = some (.string X.nm)) := ⟨HZ0, drew_below (Below.refl _ wc), HALL3.out _ HZ0⟩
                      clear QD HE HALL2 HSH rb hlb HBx
                      go_upto_region 27 with fail
                      refine wp_region_noPanic ?_
                      refine wp_region_held_drew (S := (fun w_ => Below wG.heap.size wG w_ ∧ Below wc.heap.size wc w_ ∧ w_.cell? ⟨b3, o3 + k * 2, none⟩ = some (.int .i64 m2.id) ∧ w_.cell? ⟨g, 0, none⟩ = some (.int .i64 X.id) ∧ w_.cell? ⟨g, 2, none⟩ = some (.string X.nm))) (by kernel_rfl) ?_ (fun hHeld => ?_)
                      · (first | with_reducible exact QE | with_reducible exact hNext | assumption)
                      refine tk 0 ⟨some 129, .move (.tmp 15), 30, "law.go:149", #[], none⟩ ?_; try simp only [Act.put, pz1, pz2, pz3]
                      refine tk 1 ⟨some 130, .binOp .neq 30 (.tmp 129) (.const (.int .i64 0)) 30, 4, "law.go:149", #[⟨0, .data⟩], none⟩ ?_; try simp only [Act.put, pz1, pz2, pz3]
                      refine tk 2 ⟨some 131, .move (.tmp 130), 4, "law.go:149", #[⟨1, .data⟩], none⟩ ?_; try simp only [Act.put, pz1, pz2, pz3]
                      refine tk 3 ⟨some 132, .move (.tmp 11), 29, "law.go:149", #[⟨2, .guard⟩], some (2, false)⟩ ?_; try simp only [Act.put, pz1, pz2, pz3]
                      refine tk 4 ⟨some 133, .move (.tmp 13), 3, "law.go:149", #[⟨2, .guard⟩], some (2, false)⟩ ?_; try simp only [Act.put, pz1, pz2, pz3]
                      refine tk 5 ⟨some 134, .indexAddr 29 (.tmp 132) (.tmp 133), 0, "law.go:149", #[⟨3, .data⟩, ⟨4, .data⟩, ⟨2, .guard⟩], some (2, false)⟩ ?_; try simp only [Act.put, pz1, pz2, pz3]
                      refine tk 6 ⟨some 135, .fieldAddr 50 (.tmp 134) 0, 0, "law.go:149", #[⟨5, .data⟩, ⟨2, .guard⟩], some (2, false)⟩ ?_; try simp only [Act.put, pz1, pz2, pz3]
                      refine tk 7 ⟨some 136, .load 3 (.tmp 135), 3, "law.go:149", #[⟨6, .data⟩, ⟨2, .guard⟩], some (2, false)⟩ ?_; try simp only [Act.put, pz1, pz2, pz3]
                      refine tk 8 ⟨some 137, .fieldAddr 54 (.tmp 10) 0, 0, "law.go:149", #[⟨2, .guard⟩], some (2, false)⟩ ?_; try simp only [Act.put, pz1, pz2, pz3]
                      refine tk 9 ⟨some 138, .load 3 (.tmp 137), 3, "law.go:149", #[⟨8, .data⟩, ⟨2, .guard⟩], some (2, false)⟩ ?_; try simp only [Act.put, pz1, pz2, pz3]
                      refine tk 10 ⟨some 139, .binOp .eql 3 (.tmp 136) (.tmp 138) 3, 4, "law.go:149", #[⟨7, .data⟩, ⟨9, .data⟩, ⟨2, .guard⟩], some (2, false)⟩ ?_; try simp only [Act.put, pz1, pz2, pz3]
                      refine tk 11 ⟨some 140, .pick (.tmp 131) (.const (.bool true)) (.tmp 139), 4, "law.go:149", #[⟨2, .data⟩, ⟨10, .data⟩], none⟩ ?_; try simp only [Act.put, pz1, pz2, pz3]
                      refine tk 12 ⟨some 141, .move (.tmp 140), 4, "law.go:149", #[⟨11, .data⟩, ⟨2, .chain⟩], none⟩ ?_; try simp only [Act.put, pz1, pz2, pz3]
                      refine tk 13 ⟨some 142, .move (.tmp 14), 29, "law.go:149", #[⟨12, .guard⟩], some (12, false)⟩ ?_; try simp only [Act.put, pz1, pz2, pz3]
                      refine tk 14 ⟨some 143, .fieldAddr 54 (.tmp 10) 0, 0, "law.go:149", #[⟨12, .guard⟩], some (12, false)⟩ ?_; try simp only [Act.put, pz1, pz2, pz3]
                      refine tk 15 ⟨some 144, .load 3 (.tmp 143), 3, "law.go:149", #[⟨14, .data⟩, ⟨12, .guard⟩], some (12, false)⟩ ?_; try simp only [Act.put, pz1, pz2, pz3]
                      refine tk 16 ⟨some 145, .fieldAddr 54 (.tmp 10) 2, 0, "law.go:149", #[⟨12, .guard⟩], some (12, false)⟩ ?_; try simp only [Act.put, pz1, pz2, pz3]
                      refine tk 17 ⟨some 146, .load 9 (.tmp 145), 9, "law.go:149", #[⟨16, .data⟩, ⟨12, .guard⟩], some (12, false)⟩ ?_; try simp only [Act.put, pz1, pz2, pz3]
                      refine tk 18 ⟨some 147, .build 50 #[(0, .tmp 144), (1, .tmp 146)], 50, "law.go:149", #[⟨15, .data⟩, ⟨17, .data⟩, ⟨12, .guard⟩], some (12, false)⟩ ?_; try simp only [Act.put, pz1, pz2, pz3]
                      refine wpAnyH_ready (rs := [19]) (by kernel_rfl) (by simp) ?_
                      refine AllReadyH.cons (o := ⟨some 148, .call { callee := .value (.func 30), args := #[.tmp 142, .tmp 147], argTypes := #[29, 50] }, 4, "law.go:149", #[⟨13, .data⟩, ⟨18, .data⟩, ⟨12, .chain⟩, ⟨12, .guard⟩], some (12, false)⟩) rfl (fun K hK => ?_) AllReadyH.nil
                      go_simp
                      (go_at_call 30; ((with_reducible refine (HIN.out _ hHeld.2.1).mono ?_); rintro e' w7 ⟨rfl, b8⟩; have HZ := btr hHeld.1 hHeld.1.size b8; have hNext : (Below wG.heap.size wG w7 ∧ Below wc.heap.size wc w7 ∧ w7.cell? ⟨b3, o3 + k * 2, none⟩ = some (.int .i64 m2.id) ∧ w7.cell? ⟨g, 0, none⟩ = some (.int .i64 X.id) ∧ w7.cell? ⟨g, 2, none⟩ = some (.string X.nm)) := ⟨HZ, btr hHeld.2.1 hHeld.2.1.size b8, HALL3.out _ HZ⟩))
                      go_wp2_with fail
                      refine hK.out _ _ ?_ (fun hNew => ?_)
                      · (first | with_reducible exact QE | with_reducible exact hNext | assumption)
                      clear hK K hHeld
                      have hHeld := hNew
                      clear hNew
                      try simp only [Act.put, pz1, pz2, pz3]
                      refine tk 20 ⟨some 149, .unOp .not 4 (.tmp 148), 4, "law.go:149", #[⟨19, .data⟩, ⟨12, .guard⟩], some (12, false)⟩ ?_; try simp only [Act.put, pz1, pz2, pz3]
                      refine tk 21 ⟨some 150, .pick (.tmp 141) (.const (.bool true)) (.tmp 149), 4, "law.go:149", #[⟨12, .data⟩, ⟨20, .data⟩], none⟩ ?_; try simp only [Act.put, pz1, pz2, pz3]
                      refine wpAnyH_done (by kernel_rfl) ?_ _
                      refine NoPanic.normal ?_
                      go_wp2_with fail
                      go_roundw
                      case rel => exact ⟨k + 1, by omega, by go_num, hHeld.1⟩
                      case measure => simp [intOf]; omega
                  · obtain rfl : l = k := by omega
                    have HB := btr HB5 HB5.size HBr
                    have T1 := T5.next HBr
                    clear hlt HBr
                    go_wp2_with (go_at_call 10; ((with_reducible refine (awakeK_any _ T1).mono ?_); rintro e' w9 ⟨rfl, b9⟩; have HB := btr HB HB.size b9; clear b9))
                    go_ret
                    exact ⟨rfl, HB⟩
end Go.Proofs.YteokeghenjobaaaGreatDoor
namespace Go.Proofs.YteokeghenjobaaaGreatDoor
open Go.ChangeShapes Go.WideShapes Go.ChangeAt Go.RowKit
theorem acc_eq : Rows.laid_unicode_utf8_acceptRanges = Lib.acceptData := by kernel_rfl
theorem first_eq : Rows.laid_unicode_utf8_first = Lib.firstData := Pinned.utf8First_eq
def laidTabs : List (String × DataW Unit) := [("unicode/utf8.acceptRanges", Lib.acceptData), ("unicode/utf8.first", Lib.firstData)]
theorem laid_eq : [("unicode/utf8.acceptRanges", Rows.laid_unicode_utf8_acceptRanges), ("unicode/utf8.first", Rows.laid_unicode_utf8_first)] = laidTabs := by rw [acc_eq, first_eq]; rfl
noncomputable def laidWorld (os : Os) : World :=
  let w0 := World.holding Tryz.prog os ⟨#[], #[], []⟩
  let put (h : Array Obj) (g : Nat) (cs : Array Value) : Array Obj := h.modify g fun
    | .cells _ t frozen => .cells cs t frozen
    | o => o
  let h1 := put w0.heap 1 (Lib.firstTab.map fun z => Value.int .u8 z).toArray
  let h2 := put h1 2 ((List.range 16).flatMap fun i => [Value.int .u8 (Lib.accLo i), Value.int .u8 (Lib.accHi i)]).toArray
  { w0 with heap := h2 }
theorem noHandle (w : World) : laidMetH Tryz.prog laidTabs w ↔ laidMet Tryz.prog laidTabs w := by
  have e : (laidTabs.filter fun x => x.2.handleName?.isSome) = [] := by kernel_rfl
  unfold laidMetH
  rw [e]
theorem laid_met (os : Os) (args : Array Value) : laidMetH Tryz.prog [("unicode/utf8.acceptRanges", Rows.laid_unicode_utf8_acceptRanges), ("unicode/utf8.first", Rows.laid_unicode_utf8_first)] ((laidWorld os).forCall (fun _ _ => 0) ⟨#[], args, []⟩).memory := by
  rw [laid_eq, noHandle]
  exact (LaidIn.of_run (l := laidTabs) [1, 2] 8 (by kernel_rfl) (by kernel_rfl) (by kernel_rfl) (by kernel_rfl)).met
theorem tabs_of {W : World} (h : laidMetH Tryz.prog [("unicode/utf8.acceptRanges", Rows.laid_unicode_utf8_acceptRanges), ("unicode/utf8.first", Rows.laid_unicode_utf8_first)] W) : Tabs W := by
  rw [laid_eq, noHandle] at h
  exact utf8Tabs_of_readsT (U8Types.of196 Tryz.laysValid) ⟨by kernel_rfl, by kernel_rfl, by kernel_rfl, by kernel_rfl, by kernel_rfl, by kernel_rfl, by kernel_rfl⟩ (Lib.laidMet.reads h (.tail _ (.head _))) (Lib.laidMet.reads h (.head _))
end Go.Proofs.YteokeghenjobaaaGreatDoor
