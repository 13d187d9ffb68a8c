/- What chapter 2's own Read wants. -/
import Derived.Test.YtmnfikfncbppfaaSrH
import Derived.Laws.BytesArg
namespace Go.Proofs.Ytmnfikfncbppfaa
open Go.ChangeShapes Go.WideShapes Go.ChangeAt Go.RowKit
set_option linter.unusedSimpArgs false
set_option linter.unusedVariables false

attribute [local go_sem ↓] Go.wp_at_zero Go.wp_at_succ
set_option maxRecDepth 100000 in
set_option maxHeartbeats 4000000 in
theorem rlay_no (es : List (St × Value)) (n : Nat) (A : Option Addr) (c : Nat) (w : World) (hn : es.length = n) (h : ShV w w.heap.size A es) (hps : ∀ e ∈ es, e.1.2.length ≤ 1000000) (n1 : n ≤ 1000000) (hm : mayS (es.map Prod.fst) = false) :
    Calls Try.prog 19 #[.slice A n c] w fun e' w' => e' = .returned (.tuple #[.slice none 0 0, .int .i64 2]) ∧ Below w.heap.size w w' := by
  have hcall := rsmay_any es n A c w hn h hps n1
  rw [hm] at hcall
  clear hm hn hps n1 h
  go_enter Try.func19, Try.ntmps19
  go_wp2_with (go_at_call 25; ((with_reducible refine (hcall).mono ?_); rintro e' w1 ⟨rfl, hb1⟩))
  go_ret2
  exact ⟨rfl, hb1⟩
def toBA (bs : List Nat) : ByteArray := strOfNums (bs.map fun (b : Nat) => (b : Int))
theorem toBA_inj {xs bs : List Nat} (ha : Bytes8 xs) (hb : Bytes8 bs) (h : toBA xs = toBA bs) : xs = bs := by
  have e := congrArg (fun (s : ByteArray) => s.data.toList.map UInt8.toNat) h
  simp only [toBA, strOfNums_data, List.map_map] at e
  have key : ∀ {xs : List Nat}, Bytes8 xs → xs.map (UInt8.toNat ∘ ((fun n : Int => UInt8.ofNat n.toNat) ∘ fun (b : Nat) => (b : Int))) = xs := by
    intro xs hx
    conv => rhs; rw [← List.map_id xs]
    apply List.map_congr_left
    intro x hm
    have := hx x hm
    simp
    omega
  rw [key ha, key hb] at e
  exact e
theorem conv_str (bs : List Nat) (n : Nat) (A : Option Addr) (c B : Nat) (w : World) (hn : bs.length = n) (h : Sl w B A (bs.map byteV)) :
    (convert 22 9 (.slice A n c)).run Try.prog w = .ok (.string (toBA bs)) w := by
  rcases h with h | ⟨b, o, rfl, _, hc⟩
  · obtain rfl : bs = [] := by simpa using h
    obtain rfl : n = 0 := by simpa using hn.symm
    cases A with
    | none => 
      rw [run_convert_bytes_nil w 22 5 (by kernel_rfl) (by kernel_rfl) 0 c 9 (by kernel_rfl)]
      rfl
    | some ad =>
      obtain ⟨b, o, p⟩ := ad
      rw [run_convert_bytes_string w _ _ 5 _ 0 c (by kernel_rfl) (by kernel_rfl) (by kernel_rfl), run_bytesToString w _ 0 c [] (by rfl)]
      rfl
  · refine run_convert_bytes_arg w 22 5 (by kernel_rfl) (by kernel_rfl) b o n c (bs.map fun (b : Nat) => (b : Int)) (by simpa using hn) (fun i hi => ?_) 9 (by kernel_rfl)
    have hi2 : i < bs.length := by omega
    have := hc i (byteV bs[i]) (by simp [hi2])
    rw [this]
    simp [byteV, List.getD, hi2]
theorem lrP_ok : ∀ (n : Nat) (b : List Nat) (ps : List Pt), Bytes8 b → (∀ p ∈ ps, p.1 < 256 ∧ p.2.1 < 256 ∧ p.2.2.1 < 256 ∧ p.2.2.2 < 256) → Bytes8 (lrP n b ps).2 ∧ ∀ p ∈ (lrP n b ps).1, p.1 < 256 ∧ p.2.1 < 256 ∧ p.2.2.1 < 256 ∧ p.2.2.2 < 256
  | n + 1, a :: c :: d :: e :: b, ps, h8, hp => by
    simp only [lrP]
    refine lrP_ok n b _ (fun x hx => h8 x (by simp [hx])) (fun p hm => ?_)
    rcases List.mem_append.1 hm with hm | hm
    · exact hp p hm
    · obtain rfl : p = (a, c, d, e) := by simpa using hm
      exact ⟨h8 a (by simp), h8 c (by simp), h8 d (by simp), h8 e (by simp)⟩
  | 0, b, ps, h8, hp => by simp only [lrP]; exact ⟨h8, hp⟩
  | n + 1, [], ps, h8, hp => by simp only [lrP]; exact ⟨h8, hp⟩
  | n + 1, [_], ps, h8, hp => by simp only [lrP]; exact ⟨h8, hp⟩
  | n + 1, [_, _], ps, h8, hp => by simp only [lrP]; exact ⟨h8, hp⟩
  | n + 1, [_, _, _], ps, h8, hp => by simp only [lrP]; exact ⟨h8, hp⟩
theorem lrS_ok : ∀ (n : Nat) (b : List Nat) (ss : List St), Bytes8 b → (∀ s ∈ ss, StOk s) → ∀ s ∈ lrS n b ss, StOk s
  | n + 1, h :: k :: b, ss, h8, hs => by
    simp only [lrS]
    have hb : Bytes8 b := fun x hx => h8 x (by simp [hx])
    obtain ⟨g1, g2⟩ := lrP_ok k b [] hb (by simp)
    refine lrS_ok n _ _ g1 (fun s hm => ?_)
    rcases List.mem_append.1 hm with hm | hm
    · exact hs s hm
    · obtain rfl : s = (h, (lrP k b []).1) := by simpa using hm
      exact ⟨h8 h (by simp), g2⟩
  | 0, b, ss, h8, hs => by simp only [lrS]; exact hs
  | n + 1, [], ss, h8, hs => by simp only [lrS]; exact hs
  | n + 1, [_], ss, h8, hs => by simp only [lrS]; exact hs
theorem layB_8 {ss : List St} (h : ∀ s ∈ ss, StOk s) (hm : mayS ss = true) : Bytes8 (layB ss) := by
  intro x hx
  unfold layB at hx
  rcases List.mem_cons.1 hx with rfl | hx
  · have := mayS_len hm
    omega
  · unfold stsB at hx
    obtain ⟨s, hs, hx⟩ := List.mem_flatMap.1 hx
    have ht := mayT_bd (mayS_all hm s hs)
    have ho := h s hs
    unfold stB at hx
    rcases List.mem_cons.1 hx with rfl | hx
    · exact ho.1
    · rcases List.mem_cons.1 hx with rfl | hx
      · omega
      · unfold ptsB at hx
        obtain ⟨p, hp, hx⟩ := List.mem_flatMap.1 hx
        have := ho.2 p hp
        unfold ptB at hx
        simp at hx
        omega
theorem lrP_len : ∀ (n : Nat) (b : List Nat) (ps : List Pt), (lrP n b ps).1.length ≤ ps.length + n
  | n + 1, a :: c :: d :: e :: b, ps => by
    simp only [lrP]
    have := lrP_len n b (ps ++ [(a, c, d, e)])
    simp at this
    omega
  | 0, b, ps => by simp only [lrP]; omega
  | n + 1, [], ps => by simp only [lrP]; omega
  | n + 1, [_], ps => by simp only [lrP]; omega
  | n + 1, [_, _], ps => by simp only [lrP]; omega
  | n + 1, [_, _, _], ps => by simp only [lrP]; omega
theorem RowS.far {w : World} {base : Nat} {v : Value} {es : List (St × Value)} (h : RowS w base v es) {p : Addr} (hv : v.ownBlock ≠ some p.block) (he : ∀ e ∈ es, e.2.ownBlock ≠ some p.block) (u : Value) : RowS (w.setCell p u) base v es := h.keep fun g _ _ hg => Below.heap_setCell w p u g (by
  rintro rfl
  rcases hg with hg | ⟨e, hm, hg⟩
  · exact hv hg
  · exact he e hm hg)
theorem RowP.far {w : World} {base : Nat} {q : Value} {ps : List Pt} (h : RowP w base q ps) {p : Addr} (hq : q.ownBlock ≠ some p.block) (u : Value) : RowP (w.setCell p u) base q ps := own_keep h fun g hg => Below.heap_setCell w p u g (by
  rintro rfl
  exact hq hg)
theorem alloc_st (w : World) : (Instr.alloc 44 true (.tuple #[])).run Try.prog w = .ok (.pointer (some ⟨w.heap.size, 0, none⟩)) (w.alloc (.cells #[.int .i64 0, .int .i64 0, .slice none 0 0] 44)) := by kernel_rfl
theorem wp_allocst {w : World} {o : Oper} {a : Act} {K : Act → World → Prop} {Q : Exit → Act → World → Prop} (hop : o.op = Op.alloc 44)
    (hK : ∀ w' g, Blk w' g 44 #[.int .i64 0, .int .i64 0, .slice none 0 0] → g = w.heap.size → Below w.heap.size w w' → K (a.put o.dst (.pointer (some ⟨g, 0, none⟩))) w') : Oper.wp Try.prog o a w K Q := by
  have hrun := alloc_st w
  unfold Oper.wp
  simp [execOp, hop, hrun, Result.andThen]
  exact hK _ _ (Blk.new_ _ _ _) rfl ((Below.refl _ _).alloc (Nat.le_refl _) _)
/-- The new stroke's three cells. -/
theorem stR_facts {wX : World} {base g : Nat} {v : Value} {es : List (St × Value)} (px qx : Int) (hX : Blk wX g 44 #[.int .i64 0, .int .i64 0, .slice none 0 0]) (hS : RowS wX base v es) (hv : v.ownBlock ≠ some g) (he : ∀ e ∈ es, e.2.ownBlock ≠ some g) :
    ∃ wq, wq = (((wX.setCell ⟨g, 0, none⟩ (.int .i64 px)).setCell ⟨g, 1, none⟩ (.int .i64 qx)).setCell ⟨g, 2, none⟩ (.slice none 0 0)) ∧ Below g wX wq ∧ Blk wq g 44 #[.int .i64 px, .int .i64 qx, .slice none 0 0] ∧ RowS wq base v es := by
  refine ⟨_, rfl, ((((Below.refl g wX).setCell (p := ⟨g, 0, none⟩) (Nat.le_refl _) _).setCell (p := ⟨g, 1, none⟩) (Nat.le_refl _) _).setCell (p := ⟨g, 2, none⟩) (Nat.le_refl _) _), ?_, ?_⟩
  · exact ((hX.set_ 0 (.int .i64 px)).set_ 1 (.int .i64 qx)).set_ 2 (.slice none 0 0)
  · exact ((hS.far (p := ⟨g, 0, none⟩) hv he _).far (p := ⟨g, 1, none⟩) hv he _).far (p := ⟨g, 2, none⟩) hv he _
theorem own_ne {w : World} {base size n : Nat} {e : TypeId} {v : Value} {xs : List Value} (h : w.ownsRow base e size v n xs) {g : Nat} (hg : w.heap.size ≤ g) : v.ownBlock ≠ some g := by
  intro hc
  have := (own_at h g hc).2
  omega
end Go.Proofs.Ytmnfikfncbppfaa
