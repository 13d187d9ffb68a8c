/- rank.newest: the newest one of each page, as a map. -/
import Derived.Test.YtofeijlejljbdaaRkB
namespace Go.Proofs.Ytofeijlejljbdaa
open Go.ChangeShapes Go.WideShapes Go.ChangeAt Go.RowKit
set_option linter.unusedSimpArgs false
set_option linter.unusedVariables false

theorem newest_take {last : Int} {fs : List Fd} {k : Nat} {x : Fd} (h : fs[k]? = some x) (p : Int) : newestZ last (fs.take (k + 1)) p = stepN last p (newestZ last (fs.take k) p) x := by
  rw [take_next h, newestZ_snoc]
theorem newest_skip {last : Int} {fs : List Fd} {k : Nat} {x : Fd} (h : fs[k]? = some x) (hc : counts last x = false) : newestZ last (fs.take (k + 1)) = newestZ last (fs.take k) := by
  funext p
  rw [newest_take h]
  unfold stepN
  rw [if_neg (by rw [hc]; simp)]
theorem newest_put {last : Int} {fs : List Fd} {k : Nat} {x : Fd} (h : fs[k]? = some x) (hc : counts last x = true) (hn : ∀ y, newestZ last (fs.take k) x.p = some y → newer x y = true) : newestZ last (fs.take (k + 1)) = fun q => if q = x.p then some x else newestZ last (fs.take k) q := by
  funext p
  rw [newest_take h]
  unfold stepN
  by_cases hp : p = x.p
  · subst hp
    rw [if_pos ⟨hc, rfl⟩, if_pos rfl]
    cases hq : newestZ last (fs.take k) x.p with
    | none => rfl
    | some y =>
      dsimp only
      rw [if_pos (hn y hq)]
  · rw [if_neg (fun h => hp h.2.symm), if_neg hp]
theorem newest_keep {last : Int} {fs : List Fd} {k : Nat} {x y : Fd} (h : fs[k]? = some x) (hq : newestZ last (fs.take k) x.p = some y) (hn : newer x y = false) : newestZ last (fs.take (k + 1)) = newestZ last (fs.take k) := by
  funext p
  rw [newest_take h]
  unfold stepN
  split
  · rename_i hc
    obtain rfl := hc.2
    rw [hq]
    dsimp only
    rw [if_neg (by rw [hn]; simp)]
  · rfl
theorem counts_no1 {last : Int} {x : Fd} (h1 : ¬ x.k = 1) (h2 : ¬ x.k = 2) : counts last x = false := by
  unfold counts
  rw [decide_eq_false h1, decide_eq_false h2]
  rfl
theorem counts_no2 {last : Int} {x : Fd} (h : last < x.e) : counts last x = false := by
  unfold counts
  rw [decide_eq_false (by omega : ¬ x.e ≤ last), Bool.and_false]
theorem counts_yes {last : Int} {x : Fd} (h : x.k = 1 ∨ x.k = 2) (h2 : x.e ≤ last) : counts last x = true := by
  unfold counts
  rw [decide_eq_true h2, Bool.and_true]
  rcases h with h | h
  · rw [decide_eq_true h]; rfl
  · rw [decide_eq_true h, Bool.or_true]
set_option maxRecDepth 100000 in
set_option maxHeartbeats 4000000 in
theorem newest_any (fs : List Fd) (A : Option Addr) (c : Nat) (w : World) (h : SlFd w w.heap.size A fs) (n1 : fs.length ≤ 1000000) (hok : ∀ x ∈ fs, FdOk x) : Calls Try.prog 20 #[.slice A fs.length c] w fun e' w' => (∃ g, e' = .returned (.map (some g)) ∧ OwnM w' g fs.length (newestZ (lastZ fs) fs) ∧ w.heap.size ≤ g) ∧ Below w.heap.size w w' := by
  have hmm := @run_makeMap Try.prog
  go_enter Try.func20, Try.ntmps20
  go_wp2_with (go_at_call 12; go_loud (((with_reducible refine (last_any fs A c _ h n1).mono ?_); rintro e' w1 ⟨rfl, hb1⟩)))
  obtain ⟨last, hlast⟩ : ∃ l, lastZ fs = l := ⟨_, rfl⟩
  have HLA := Lib.hid hlast
  rw [hlast]
  clear hlast hmm
  have H1 := h.next hb1
  have hz1 := hb1.size
  have HM0 := OwnM.made w1
  have HB0 : Below w1.heap.size w1 (w1.alloc (.map #[] 0)) := (Below.refl _ _).alloc (Nat.le_refl _) _
  go_loopw [14] (fun s14 wr => ∃ (k : Nat), k ≤ fs.length ∧ s14 = .int .i64 (k : Int) ∧ OwnM wr w1.heap.size k (newestZ last (fs.take k)) ∧ Below w1.heap.size w1 wr) (fun s14 _ => fs.length - (iOf s14).toNat)
  case atStart => exact ⟨0, Nat.zero_le _, rfl, HM0, HB0⟩
  case round =>
    clear HM0 HB0
    obtain ⟨k, hk, rfl, hO, hB⟩ := hrel
    have hgl := hO.lt
    by_cases hlt : k < fs.length
    · obtain ⟨b1, o1, rfl, l1, q1⟩ := (H1.below hB).at_ (by omega)
      obtain ⟨x, hx⟩ : ∃ x, fs[k]? = some x := ⟨_, List.getElem?_eq_getElem hlt⟩
      obtain ⟨x0, x1, x2, x3, x4, x5⟩ := q1 k x hx
      have hsz := hB.size
      have l1' : b1 < wr.heap.size := by omega
      have i0 : (0 : Int) ≤ (k : Int) := by omega
      have i1 : (k : Int) < (fs.length : Int) := by omega
      have hp : i64in x.p := (hok x (List.mem_of_getElem? hx)).2.2.2.1
      clear q1
      by_cases k1 : x.k = 1
      · by_cases he : last < x.e
        · have hn := newest_skip (last := last) hx (counts_no2 he)
          have HN := Lib.hid hn
          clear hn hx
          go_wp2
          go_roundw
          case rel => exact ⟨k + 1, by omega, by go_num, by rw [HN.out]; exact (hO.alloc_ _).mono (by omega), hB.alloc hsz _⟩
          case measure => simp [iOf]; omega
        · have hcn := counts_yes (last := last) (Or.inl k1) (by omega)
          cases hq : newestZ last (fs.take k) x.p with
          | none =>
            have hn := newest_put hx hcn (fun y hy => by rw [hq] at hy; cases hy)
            have HN := Lib.hid hn
            have HQ := Lib.hid hq
            have HC := Lib.hid hcn
            have HX := Lib.hid hx
            clear hn hq hcn hx
            go_wp2_with (first
              | (at_lookup; go_loud (refine wpList_look_ok _ rfl _ _ rfl w1.heap.size k _ rfl (hO.alloc_ _) x.p rfl hp zFd false (by rw [HQ.out]; exact ⟨rfl, rfl⟩) ?_))
              | (at_mapUpdate; go_loud (refine wpList_put _ rfl _ _ _ rfl w1.heap.size k _ rfl ((hO.alloc_ _).alloc_ _) (by omega) x.p rfl hp x (by simp only [k1]; rfl) ?_; intro w4 ho4 hg4)))
            go_roundw
            case rel => exact ⟨k + 1, by omega, by go_num, by rw [HN.out]; exact ho4, ((hB.alloc hsz _).alloc (by simp; omega) _).grown hg4 (by simp; omega) (fun j hj => by cases hj; omega)⟩
            case measure => simp [iOf]; omega
          | some y =>
            rcases (by cases hqn : newer x y <;> simp : newer x y = true ∨ newer x y = false) with hnw | hnw
            · have hn := newest_put hx hcn (fun z hz => by rw [hq] at hz; cases hz; exact hnw)
              have HN := Lib.hid hn
              have HQ0 := Lib.hid hq
              have HQ : Hid (newerZ x.e x.s y.e y.s = _) := Lib.hid hnw
              have HC := Lib.hid hcn
              have HX := Lib.hid hx
              clear hn hq hcn hx hnw
              go_wp2_with (first
                | (at_lookup; go_loud (refine wpList_look_ok _ rfl _ _ rfl w1.heap.size k _ rfl (hO.alloc_ _) x.p rfl hp y true (by rw [HQ0.out]; exact ⟨rfl, rfl⟩) ?_))
                | (go_at_call 19; go_loud (((with_reducible refine (newer_any _ _ x.s x.e _ _ y.s y.e _).mono ?_); rw [HQ.out]; rintro e' w3 ⟨rfl, hb3⟩; (have hd3 : Blk w3 wr.heap.size 30 #[.int .i64 x.b, .int .i64 x.g, .int .i64 1, .int .i64 x.p, .int .i64 x.s, .int .i64 x.e] := by (refine Blk.below ((Blk.new_ wr 30 #[.int .i64 x.b, .int .i64 x.g, .int .i64 1, .int .i64 x.p, .int .i64 x.s, .int .i64 x.e]).alloc_ _) hb3 ?_; first | omega | (simp; done) | (simp; omega))); have d0 : w3.cell? ⟨wr.heap.size, 0, none⟩ = some (.int .i64 x.b) := hd3.cell_ 0; have d1 : w3.cell? ⟨wr.heap.size, 1, none⟩ = some (.int .i64 x.g) := hd3.cell_ 1; have d2 : w3.cell? ⟨wr.heap.size, 2, none⟩ = some (.int .i64 1) := hd3.cell_ 2; have d3 : w3.cell? ⟨wr.heap.size, 3, none⟩ = some (.int .i64 x.p) := hd3.cell_ 3; have d4 : w3.cell? ⟨wr.heap.size, 4, none⟩ = some (.int .i64 x.s) := hd3.cell_ 4; have d5 : w3.cell? ⟨wr.heap.size, 5, none⟩ = some (.int .i64 x.e) := hd3.cell_ 5; clear hd3)))
                | (at_mapUpdate; go_loud (refine wpList_put _ rfl _ _ _ rfl w1.heap.size k _ rfl (((hO.alloc_ _).alloc_ _).below hb3) (by omega) x.p rfl hp x (by simp only [k1]; rfl) ?_; intro w4 ho4 hg4)))
              have hz3 := hb3.size
              simp at hz3
              go_roundw
              case rel => exact ⟨k + 1, by omega, by go_num, by rw [HN.out]; exact ho4, ((btr ((hB.alloc hsz _).alloc (by simp; omega) _) (by simp; omega) hb3)).grown hg4 (by omega) (fun j hj => by cases hj; omega)⟩
              case measure => simp [iOf]; omega
            · have hn := newest_keep hx hq hnw
              have HN := Lib.hid hn
              have HQ0 := Lib.hid hq
              have HQ : Hid (newerZ x.e x.s y.e y.s = _) := Lib.hid hnw
              have HC := Lib.hid hcn
              have HX := Lib.hid hx
              clear hn hq hcn hx hnw
              go_wp2_with (first
                | (at_lookup; go_loud (refine wpList_look_ok _ rfl _ _ rfl w1.heap.size k _ rfl (hO.alloc_ _) x.p rfl hp y true (by rw [HQ0.out]; exact ⟨rfl, rfl⟩) ?_))
                | (go_at_call 19; go_loud (((with_reducible refine (newer_any _ _ x.s x.e _ _ y.s y.e _).mono ?_); rw [HQ.out]; rintro e' w3 ⟨rfl, hb3⟩; (have hd3 : Blk w3 wr.heap.size 30 #[.int .i64 x.b, .int .i64 x.g, .int .i64 1, .int .i64 x.p, .int .i64 x.s, .int .i64 x.e] := by (refine Blk.below ((Blk.new_ wr 30 #[.int .i64 x.b, .int .i64 x.g, .int .i64 1, .int .i64 x.p, .int .i64 x.s, .int .i64 x.e]).alloc_ _) hb3 ?_; first | omega | (simp; done) | (simp; omega))); have d0 : w3.cell? ⟨wr.heap.size, 0, none⟩ = some (.int .i64 x.b) := hd3.cell_ 0; have d1 : w3.cell? ⟨wr.heap.size, 1, none⟩ = some (.int .i64 x.g) := hd3.cell_ 1; have d2 : w3.cell? ⟨wr.heap.size, 2, none⟩ = some (.int .i64 1) := hd3.cell_ 2; have d3 : w3.cell? ⟨wr.heap.size, 3, none⟩ = some (.int .i64 x.p) := hd3.cell_ 3; have d4 : w3.cell? ⟨wr.heap.size, 4, none⟩ = some (.int .i64 x.s) := hd3.cell_ 4; have d5 : w3.cell? ⟨wr.heap.size, 5, none⟩ = some (.int .i64 x.e) := hd3.cell_ 5; clear hd3))))
              go_roundw
              case rel => exact ⟨k + 1, by omega, by go_num, by rw [HN.out]; exact (((hO.alloc_ _).alloc_ _).below hb3).mono (by omega), btr ((hB.alloc hsz _).alloc (by simp; omega) _) (by simp; omega) hb3⟩
              case measure => simp [iOf]; omega
      · by_cases k2 : x.k = 2
        · by_cases he : last < x.e
          · have hn := newest_skip (last := last) hx (counts_no2 he)
            have HN := Lib.hid hn
            clear hn hx
            go_wp2
            go_roundw
            case rel => exact ⟨k + 1, by omega, by go_num, by rw [HN.out]; exact (hO.alloc_ _).mono (by omega), hB.alloc hsz _⟩
            case measure => simp [iOf]; omega
          · have hcn := counts_yes (last := last) (Or.inr k2) (by omega)
            cases hq : newestZ last (fs.take k) x.p with
            | none =>
              have hn := newest_put hx hcn (fun y hy => by rw [hq] at hy; cases hy)
              have HN := Lib.hid hn
              have HQ := Lib.hid hq
              have HC := Lib.hid hcn
              have HX := Lib.hid hx
              clear hn hq hcn hx
              go_wp2_with (first
                | (at_lookup; go_loud (refine wpList_look_ok _ rfl _ _ rfl w1.heap.size k _ rfl (hO.alloc_ _) x.p rfl hp zFd false (by rw [HQ.out]; exact ⟨rfl, rfl⟩) ?_))
                | (at_mapUpdate; go_loud (refine wpList_put _ rfl _ _ _ rfl w1.heap.size k _ rfl ((hO.alloc_ _).alloc_ _) (by omega) x.p rfl hp x (by simp only [k2]; rfl) ?_; intro w4 ho4 hg4)))
              go_roundw
              case rel => exact ⟨k + 1, by omega, by go_num, by rw [HN.out]; exact ho4, ((hB.alloc hsz _).alloc (by simp; omega) _).grown hg4 (by simp; omega) (fun j hj => by cases hj; omega)⟩
              case measure => simp [iOf]; omega
            | some y =>
              rcases (by cases hqn : newer x y <;> simp : newer x y = true ∨ newer x y = false) with hnw | hnw
              · have hn := newest_put hx hcn (fun z hz => by rw [hq] at hz; cases hz; exact hnw)
                have HN := Lib.hid hn
                have HQ0 := Lib.hid hq
                have HQ : Hid (newerZ x.e x.s y.e y.s = _) := Lib.hid hnw
                have HC := Lib.hid hcn
                have HX := Lib.hid hx
                clear hn hq hcn hx hnw
                go_wp2_with (first
                  | (at_lookup; go_loud (refine wpList_look_ok _ rfl _ _ rfl w1.heap.size k _ rfl (hO.alloc_ _) x.p rfl hp y true (by rw [HQ0.out]; exact ⟨rfl, rfl⟩) ?_))
                  | (go_at_call 19; go_loud (((with_reducible refine (newer_any _ _ x.s x.e _ _ y.s y.e _).mono ?_); rw [HQ.out]; rintro e' w3 ⟨rfl, hb3⟩; (have hd3 : Blk w3 wr.heap.size 30 #[.int .i64 x.b, .int .i64 x.g, .int .i64 2, .int .i64 x.p, .int .i64 x.s, .int .i64 x.e] := by (refine Blk.below ((Blk.new_ wr 30 #[.int .i64 x.b, .int .i64 x.g, .int .i64 2, .int .i64 x.p, .int .i64 x.s, .int .i64 x.e]).alloc_ _) hb3 ?_; first | omega | (simp; done) | (simp; omega))); have d0 : w3.cell? ⟨wr.heap.size, 0, none⟩ = some (.int .i64 x.b) := hd3.cell_ 0; have d1 : w3.cell? ⟨wr.heap.size, 1, none⟩ = some (.int .i64 x.g) := hd3.cell_ 1; have d2 : w3.cell? ⟨wr.heap.size, 2, none⟩ = some (.int .i64 2) := hd3.cell_ 2; have d3 : w3.cell? ⟨wr.heap.size, 3, none⟩ = some (.int .i64 x.p) := hd3.cell_ 3; have d4 : w3.cell? ⟨wr.heap.size, 4, none⟩ = some (.int .i64 x.s) := hd3.cell_ 4; have d5 : w3.cell? ⟨wr.heap.size, 5, none⟩ = some (.int .i64 x.e) := hd3.cell_ 5; clear hd3)))
                  | (at_mapUpdate; go_loud (refine wpList_put _ rfl _ _ _ rfl w1.heap.size k _ rfl (((hO.alloc_ _).alloc_ _).below hb3) (by omega) x.p rfl hp x (by simp only [k2]; rfl) ?_; intro w4 ho4 hg4)))
                have hz3 := hb3.size
                simp at hz3
                go_roundw
                case rel => exact ⟨k + 1, by omega, by go_num, by rw [HN.out]; exact ho4, ((btr ((hB.alloc hsz _).alloc (by simp; omega) _) (by simp; omega) hb3)).grown hg4 (by omega) (fun j hj => by cases hj; omega)⟩
                case measure => simp [iOf]; omega
              · have hn := newest_keep hx hq hnw
                have HN := Lib.hid hn
                have HQ0 := Lib.hid hq
                have HQ : Hid (newerZ x.e x.s y.e y.s = _) := Lib.hid hnw
                have HC := Lib.hid hcn
                have HX := Lib.hid hx
                clear hn hq hcn hx hnw
                go_wp2_with (first
                  | (at_lookup; go_loud (refine wpList_look_ok _ rfl _ _ rfl w1.heap.size k _ rfl (hO.alloc_ _) x.p rfl hp y true (by rw [HQ0.out]; exact ⟨rfl, rfl⟩) ?_))
                  | (go_at_call 19; go_loud (((with_reducible refine (newer_any _ _ x.s x.e _ _ y.s y.e _).mono ?_); rw [HQ.out]; rintro e' w3 ⟨rfl, hb3⟩; (have hd3 : Blk w3 wr.heap.size 30 #[.int .i64 x.b, .int .i64 x.g, .int .i64 2, .int .i64 x.p, .int .i64 x.s, .int .i64 x.e] := by (refine Blk.below ((Blk.new_ wr 30 #[.int .i64 x.b, .int .i64 x.g, .int .i64 2, .int .i64 x.p, .int .i64 x.s, .int .i64 x.e]).alloc_ _) hb3 ?_; first | omega | (simp; done) | (simp; omega))); have d0 : w3.cell? ⟨wr.heap.size, 0, none⟩ = some (.int .i64 x.b) := hd3.cell_ 0; have d1 : w3.cell? ⟨wr.heap.size, 1, none⟩ = some (.int .i64 x.g) := hd3.cell_ 1; have d2 : w3.cell? ⟨wr.heap.size, 2, none⟩ = some (.int .i64 2) := hd3.cell_ 2; have d3 : w3.cell? ⟨wr.heap.size, 3, none⟩ = some (.int .i64 x.p) := hd3.cell_ 3; have d4 : w3.cell? ⟨wr.heap.size, 4, none⟩ = some (.int .i64 x.s) := hd3.cell_ 4; have d5 : w3.cell? ⟨wr.heap.size, 5, none⟩ = some (.int .i64 x.e) := hd3.cell_ 5; clear hd3))))
                go_roundw
                case rel => exact ⟨k + 1, by omega, by go_num, by rw [HN.out]; exact (((hO.alloc_ _).alloc_ _).below hb3).mono (by omega), btr ((hB.alloc hsz _).alloc (by simp; omega) _) (by simp; omega) hb3⟩
                case measure => simp [iOf]; omega
        · have hn := newest_skip (last := last) hx (counts_no1 k1 k2)
          skip
          have HN := Lib.hid hn
          clear hn hx
          go_wp2
          go_roundw
          case rel => exact ⟨k + 1, by omega, by go_num, by rw [HN.out]; exact (hO.alloc_ _).mono (by omega), hB.alloc hsz _⟩
          case measure => simp [iOf]; omega
    · obtain rfl : k = fs.length := by omega
      rw [List.take_length] at hO
      obtain rfl := HLA.out
      go_wp2
      go_ret
      exact ⟨⟨_, rfl, hO, hz1⟩, btr hb1 hz1 hB⟩
end Go.Proofs.Ytofeijlejljbdaa
