/- The keys of a map of founds, sorted. -/
import Derived.Test.YtofeijlejljbdaaRkC
import Derived.Test.YtofeijlejljbdaaShelf
namespace Go.Proofs.Ytofeijlejljbdaa
open Go.ChangeShapes Go.WideShapes Go.ChangeAt Go.RowKit
set_option linter.unusedSimpArgs false
set_option linter.unusedVariables false

theorem Try.sortsA (m : Nat) : AnyZI.SortsIn Try.prog Try.sortedA_ren Fence.wide m :=
  ⟨fun blk off cap ss W hH hblk hsz => callsIn_wide.2 (AnyM.slices_Sort_int Try.sortA blk off cap ss W hH hblk hsz),
   fun p cap W => callsIn_wide.2 (AnyM.slices_Sort_int_none Try.sortA p cap W)⟩
theorem keys_mem {H : Type} {es : List (Lit × DataW H)} (hk : ∀ p ∈ es, ∃ x, p.1 = Lit.int .i64 x) (x : Int) : x ∈ intKeys (.map es) ↔ Maps.has (.map es) (.int .i64 x) = true := by
  rw [Maps.has_eq, List.any_eq_true]
  show x ∈ (es.map fun p => Go.intOf p.1) ↔ _
  rw [List.mem_map]
  constructor
  · rintro ⟨p, hp, rfl⟩
    obtain ⟨a, ha⟩ := hk p hp
    refine ⟨p, hp, ?_⟩
    rw [ha]
    simp [Lit.sameKey, Go.intOf]
  · rintro ⟨p, hp, hs⟩
    obtain ⟨a, ha⟩ := hk p hp
    refine ⟨p, hp, ?_⟩
    rw [ha] at hs ⊢
    simpa [Lit.sameKey, Go.intOf] using hs
theorem keys_nodup {H : Type} {es : List (Lit × DataW H)} (hp : es.Pairwise (fun p q => p.1 ≠ q.1)) (hk : ∀ p ∈ es, ∃ x, p.1 = Lit.int .i64 x) : (intKeys (.map es)).Nodup := by
  show (es.map fun p => Go.intOf p.1).Nodup
  refine List.pairwise_map.2 (hp.imp_of_mem fun {p q} h1 h2 hne e => hne ?_)
  obtain ⟨a, ha⟩ := hk p h1
  obtain ⟨c, hc⟩ := hk q h2
  rw [ha, hc] at e ⊢
  simp [Go.intOf] at e
  rw [e]
theorem sorted_lt {ss : List Int} (h : ss.Nodup) : (ss.mergeSort (fun x y => decide (x ≤ y))).Pairwise (· < ·) := by
  have tr : ∀ a b c : Int, decide (a ≤ b) = true → decide (b ≤ c) = true → decide (a ≤ c) = true := fun a b c h1 h2 => by
    have := of_decide_eq_true h1
    have := of_decide_eq_true h2
    exact decide_eq_true (by omega)
  have to : ∀ a b : Int, (decide (a ≤ b) || decide (b ≤ a)) = true := fun a b => by
    rcases Int.le_total a b with h | h
    · rw [decide_eq_true h]; rfl
    · rw [decide_eq_true h, Bool.or_true]
  have h1 := List.pairwise_mergeSort (le := fun x y : Int => decide (x ≤ y)) tr to ss
  have h2 : (ss.mergeSort (fun x y => decide (x ≤ y))).Nodup := ((List.mergeSort_perm ss _).nodup_iff).2 h
  refine (h1.and h2).imp fun {a b} hab => ?_
  have := of_decide_eq_true hab.1
  have := hab.2
  omega
theorem keys_any (b : Nat) (w : World) : Calls Try.prog 22 #[.map (some b)] w fun e' w' => e' = .returned (.func (.func 25) #[] #[.pointer (some ⟨w.heap.size, 0, none⟩)]) ∧ w' = (w.alloc (.cells #[.map (some b)] 45)) :=
  callsIn_wide.1 (AnyZI.keys_in Try.keysA Fence.wide 5 trivial rfl (some b) w)
set_option maxHeartbeats 1000000 in
theorem sorted_any (b n : Nat) (M : Int → Option Fd) (w : World) (hown : OwnM w b n M) (hn : n ≤ 1000000) :
    Calls Try.prog 21 #[.func (.func 25) #[] #[.pointer (some ⟨w.heap.size, 0, none⟩)]] (w.alloc (.cells #[.map (some b)] 45)) fun e' w' => ∃ (v : Value) (ks : List Int), e' = .returned v ∧ Hid (ks.Pairwise (· < ·) ∧ (∀ p, p ∈ ks ↔ (M p).isSome = true) ∧ ks.length ≤ n ∧ ∀ p ∈ ks, i64in p) ∧
      w'.ownsRow (w.alloc (.cells #[.map (some b)] 45)).heap.size 3 1 v ks.length (ks.map (Value.int .i64)) ∧ Below (w.alloc (.cells #[.map (some b)] 45)).heap.size (w.alloc (.cells #[.map (some b)] 45)) w' := by
  obtain ⟨D, hD, hM⟩ := hown
  obtain ⟨es, hes, hpw, _⟩ := hD.entries lawI
  obtain ⟨es', hes', hko⟩ := hD.keysOf
  obtain rfl : es = es' := by rw [hes] at hes'; simpa using hes'
  have hk : ∀ p ∈ es, ∃ x, p.1 = Lit.int .i64 x := fun p hp => by
    obtain ⟨v, hv⟩ := hko p hp
    obtain ⟨x, _, hx, _⟩ := Maps.keyOf_i64 Try.underlying3 hv
    exact ⟨x, hx⟩
  have hwf := intKeys_wf hD Try.underlying3
  have hsz := hD.size_le
  have hbl := hD.lt
  have hseq : SeqGives Fence.wide 2 Try.prog 25 #[.pointer (some ⟨w.heap.size, 0, none⟩)] encZ (fun ss => ss.Perm (intKeys D)) (Maps.size D) (w.alloc (.cells #[.map (some b)] 45)) :=
    AnyZI.keys_gives (ρ := Try.keysA_ren) { Try.keysA with } Fence.wide _ trivial rfl (by omega) w.heap.size b n D _ (by simp) (by simp) (by
      obtain ⟨es, clock, hb, Ft, hs, hD⟩ := hD
      exact ⟨es, clock, (Below.heap_alloc _ _ b hbl).trans hb, Ft, hs, hD⟩)
  have cS := AnyZI.sorted_in Try.sortedA Fence.wide 5 trivial trivial trivial trivial rfl (by omega) (Try.sortsA _) (enters_of Try.func24 (by kernel_rfl) rfl) 25 #[.pointer (some ⟨w.heap.size, 0, none⟩)] trivial (enters_of Try.func25 (by kernel_rfl) rfl) _ _ (by unfold maxLen; omega) (by omega) _ hseq
  refine (callsIn_wide.1 cS).mono ?_
  rintro e' w' ⟨v, ss, rfl, hS, hrow, _, hb⟩
  have hlen : (ss.mergeSort (fun x y => decide (x ≤ y))).length = ss.length := List.length_mergeSort ss
  subst hes
  have hmem : ∀ p, p ∈ ss.mergeSort (fun x y => decide (x ≤ y)) ↔ p ∈ intKeys (.map es) := fun p => ((List.mergeSort_perm ss _).mem_iff).trans hS.mem_iff
  refine ⟨v, ss.mergeSort (fun x y => decide (x ≤ y)), rfl, Lib.hid ⟨sorted_lt ((hS.nodup_iff).2 (keys_nodup hpw hk)), fun p => ?_, ?_, fun p hp => i64in_of (hwf p ((hmem p).1 hp))⟩, ?_, hb⟩
  · rw [hmem p, keys_mem hk, (hM p).1]
  · rw [hlen, hS.length_eq]
    show (es.map _).length ≤ n
    rw [List.length_map]
    exact hsz
  · rw [hlen]
    exact hrow
end Go.Proofs.Ytofeijlejljbdaa
