/- tag.Lay: what it lays, by contracts. -/
import Derived.Test.YtmnfikfncbppfaaTagB
import Derived.Test.YtmnfikfncbppfaaApp
import Derived.Test.YtmnfikfncbppfaaLendB
import Derived.Test.YtmnfikfncbppfaaSl2
import Derived.Deep.RegionHeld3
import Derived.Deep.DrawnRows
import Derived.Deep.DeepCutAuto
namespace Go.Proofs.Ytmnfikfncbppfaa
open Go.ChangeShapes Go.WideShapes Go.ChangeAt Go.RowKit
attribute [local go_sem ↓] Go.wp_at_zero Go.wp_at_succ
set_option linter.unusedSimpArgs false
set_option linter.unusedVariables false

/-- What is summed of a raw page, and the raw page. -/
def bodyB (data : List Nat) (k p s e : Nat) : List Nat := (((data ++ [74, k]) ++ beB p 2) ++ beB s 4) ++ beB e 3
def rawB (data : List Nat) (k p s e : Nat) : List Nat := (bodyB data k p s e ++ beB (crcMore 0 (bodyB data k p s e)) 4) ++ [0]

theorem bodyB_len (data : List Nat) (k p s e : Nat) : (bodyB data k p s e).length = data.length + 11 := by simp [bodyB, beB_len]
theorem rawB_len (data : List Nat) (k p s e : Nat) : (rawB data k p s e).length = data.length + 16 := by simp [rawB, bodyB_len, beB_len]
theorem bodyB_8 {data : List Nat} {k p s e : Nat} (hd : Bytes8 data) (hk : k < 256) : Bytes8 (bodyB data k p s e) := by
  intro b hb
  simp only [bodyB, List.mem_append, List.mem_cons, List.not_mem_nil, or_false] at hb
  rcases hb with (((h | h) | h) | h) | h
  · exact hd b h
  · omega
  · exact beB_8 _ _ b h
  · exact beB_8 _ _ b h
  · exact beB_8 _ _ b h
theorem rawB_8 {data : List Nat} {k p s e : Nat} (hd : Bytes8 data) (hk : k < 256) : Bytes8 (rawB data k p s e) := by
  intro b hb
  simp only [rawB, List.mem_append, List.mem_cons, List.not_mem_nil, or_false] at hb
  rcases hb with (h | h) | h
  · exact bodyB_8 hd hk b h
  · exact beB_8 _ _ b h
  · omega

/-- A row of the call's own that holds bytes. -/
theorem own_slice {w : World} {base : Nat} {e : TypeId} {v : Value} {n : Nat} {bs : List Nat} (h : w.ownsRow base e 1 v n (bs.map byteV)) : ∃ (A : Option Addr) (c : Nat), v = .slice A n c ∧ bs.length = n ∧ n ≤ c ∧ c ≤ maxLen ∧ (A = none → n = 0 ∧ c = 0) ∧ Sl w w.heap.size A (bs.map byteV) := by
  have hl : bs.length = n := by
    have := h.1
    simp at this
    omega
  rcases h.2 with ⟨hv, h0⟩ | ⟨g, cap, cur, hv, hbg, hh, hnc, hm, hsz, ht⟩
  · subst h0
    exact ⟨none, 0, hv, hl, Nat.le_refl _, by unfold maxLen; omega, fun _ => ⟨rfl, rfl⟩, Or.inl (by rw [List.eq_nil_of_length_eq_zero hl]; rfl)⟩
  · subst hv
    exact ⟨some ⟨g, 0, none⟩, cap, rfl, hl, hnc, hm, by simp, Sl.of_own h⟩
theorem own_mono {w : World} {base base' : Nat} {e : TypeId} {size n : Nat} {v : Value} {xs : List Value} (h : w.ownsRow base e size v n xs) (hb : base' ≤ base) : w.ownsRow base' e size v n xs := by
  obtain ⟨hl, h⟩ := h
  rcases h with h | ⟨g, cap, cur, hv, hbg, hr⟩
  · exact ⟨hl, Or.inl h⟩
  · exact ⟨hl, Or.inr ⟨g, cap, cur, hv, by omega, hr⟩⟩
theorem own_len {w : World} {base : Nat} {e : TypeId} {size n m : Nat} {v : Value} {xs : List Value} (h : n = m) (ho : w.ownsRow base e size v n xs) : w.ownsRow base e size v m xs := by rw [← h]; exact ho
theorem Rd.list {w : World} {g : Nat} {t : TypeId} {vs : List Value} (h : Blk w g t vs.toArray) {m : Nat} (hm : vs.length = m) : Rd w (some ⟨g, 0, none⟩) m 1 vs := by
  refine ⟨by omega, Or.inr ⟨g, 0, rfl, fun j u hj => ?_⟩⟩
  rw [Nat.zero_add, h.cell_ j]
  simpa using hj

theorem bapp_n (v : Nat) (n : Nat) (N : Int) (hN : (n : Int) = N) (base : Nat) (sv : Value) (m : Nat) (xs : List Nat) (w : World) (hv : v < 4294967296) (hn1 : 1 ≤ n) (hn : n ≤ 4) (hown : w.ownsRow base 5 1 sv m (xs.map byteV)) (hbase : base ≤ w.heap.size) (hm : m ≤ 1000) :
    Calls Try.prog 21 #[sv, .int .i64 v, .int .i64 N] w fun e w' =>
      ∃ sv', e = .returned sv' ∧ w'.ownsRow base 5 1 sv' (m + n) ((xs ++ beB v n).map byteV) ∧ Below base w w' ∧ (sv'.ownBlock = sv.ownBlock ∨ ∃ g, sv'.ownBlock = some g ∧ w.heap.size ≤ g) := by
  subst hN
  exact bapp_any v n base sv m xs w hv hn1 hn hown hbase hm

end Go.Proofs.Ytmnfikfncbppfaa
