/- Names, plainly: the runes of bytes, one by one; what may be a name. -/
import Derived.Lib.ValidU
import Derived.Lib.TrimUEq
import Derived.Lib.RuneCount
import Derived.Test.YtjclafigbfnemaaDoorLaw
namespace Go.Proofs.YtjclafigbfnemaaDoor
open Go.Lib
set_option linter.unusedSimpArgs false
set_option linter.unusedVariables false
def btL (l : List UInt8) (i : Nat) : Nat := (l.getD i 0).toNat
def decL (l : List UInt8) (i : Nat) : Nat × Nat := decodeN (l.length - i) (btL l i) (btL l (i + 1)) (btL l (i + 2)) (btL l (i + 3))
theorem bt_lt (l : List UInt8) (i : Nat) : btL l i < 256 := UInt8.toNat_lt _
theorem get_L (s : ByteArray) (i : Nat) : s.get! i = s.data.toList.getD i 0 := by
  cases s with
  | mk d =>
    show d[i]! = _
    rw [Array.getElem!_eq_getD, List.getD_eq_getElem?_getD, Array.getD_eq_getD_getElem?]
    simp
    rfl
theorem size_L (s : ByteArray) : s.size = s.data.toList.length := by cases s; simp [ByteArray.size]
theorem decode_L (s : ByteArray) (i : Nat) : Utf8.decode s i = decL s.data.toList i := by
  rw [decode_at, get_L, get_L, get_L, get_L, size_L]
  rfl
/-- A rune that is one: how its bytes stand. -/
def Runed (n b0 b1 b2 b3 r w : Nat) : Prop :=
  (b0 < 128 ∧ r = b0 ∧ w = 1) ∨
  (b0 / 32 = 6 ∧ 1 < n ∧ b1 / 64 = 2 ∧ r = b0 % 32 * 64 + b1 % 64 ∧ 128 ≤ r ∧ w = 2) ∨
  (b0 / 16 = 14 ∧ 2 < n ∧ b1 / 64 = 2 ∧ b2 / 64 = 2 ∧ r = b0 % 16 * 4096 + b1 % 64 * 64 + b2 % 64 ∧ 2048 ≤ r ∧ (r < 55296 ∨ (57344 ≤ r ∧ r ≤ 1114111)) ∧ w = 3) ∨
  (b0 / 8 = 30 ∧ 3 < n ∧ b1 / 64 = 2 ∧ b2 / 64 = 2 ∧ b3 / 64 = 2 ∧ r = b0 % 8 * 262144 + b1 % 64 * 4096 + b2 % 64 * 64 + b3 % 64 ∧ 65536 ≤ r ∧ (r < 55296 ∨ (57344 ≤ r ∧ r ≤ 1114111)) ∧ w = 4)
set_option maxHeartbeats 2000000 in
theorem runed_of {n b0 b1 b2 b3 : Nat} (h : decodeN n b0 b1 b2 b3 ≠ (65533, 1)) : Runed n b0 b1 b2 b3 (decodeN n b0 b1 b2 b3).1 (decodeN n b0 b1 b2 b3).2 := by
  unfold decodeN at h ⊢
  unfold Runed
  repeat' split at h
  all_goals first
    | (exfalso; exact h rfl)
    | skip
  · exact Or.inl ⟨by assumption, by rw [if_pos (by assumption)], by rw [if_pos (by assumption)]⟩
  · rename_i h1 h2 h3
    rw [if_neg h1, if_pos h2, if_pos h3]
    exact Or.inr (Or.inl ⟨h2.1, h2.2.1, h2.2.2, rfl, h3, rfl⟩)
  · rename_i h1 h2 h3 h4
    rw [if_neg h1, if_neg h2, if_pos h3, if_pos h4]
    exact Or.inr (Or.inr (Or.inl ⟨h3.1, h3.2.2.1, h3.2.1.2, h3.2.2.2, rfl, h4.1, h4.2, rfl⟩))
  · rename_i h1 h2 h3 h4 h5
    rw [if_neg h1, if_neg h2, if_neg h3, if_pos h4, if_pos h5]
    exact Or.inr (Or.inr (Or.inr ⟨h4.1, h4.2.2.2.1, h4.2.1.2, h4.2.2.1.2, h4.2.2.2.2, rfl, h5.1, h5.2, rfl⟩))
set_option maxHeartbeats 2000000 in
theorem of_runed {n b0 b1 b2 b3 r w : Nat} (h : Runed n b0 b1 b2 b3 r w) : decodeN n b0 b1 b2 b3 = (r, w) := by
  rcases h with ⟨h1, rfl, rfl⟩ | ⟨h1, h2, h3, rfl, h4, rfl⟩ | ⟨h1, h2, h3, h4, rfl, h5, h6, rfl⟩ | ⟨h1, h2, h3, h4, h5, rfl, h6, h7, rfl⟩
  · unfold decodeN
    rw [if_pos h1]
  · unfold decodeN
    rw [if_neg (by omega), if_pos ⟨h1, h2, h3⟩, if_pos h4]
  · unfold decodeN
    rw [if_neg (by omega), if_neg (by omega), if_pos ⟨h1, ⟨by omega, h3⟩, h2, h4⟩, if_pos ⟨h5, h6⟩]
  · unfold decodeN
    rw [if_neg (by omega), if_neg (by omega), if_neg (by omega), if_pos ⟨h1, ⟨by omega, h3⟩, ⟨by omega, h4⟩, h2, h5⟩, if_pos ⟨h6, h7⟩]
theorem runed_w {n b0 b1 b2 b3 r w : Nat} (h : Runed n b0 b1 b2 b3 r w) (hn : 1 ≤ n) : 1 ≤ w ∧ w ≤ n ∧ w ≤ 4 ∧ (r, w) ≠ (65533, 1) := by
  unfold Runed at h
  refine ⟨by omega, by omega, by omega, fun he => ?_⟩
  simp only [Prod.mk.injEq] at he
  omega
theorem runed_move {n b0 b1 b2 b3 r w n' b1' b2' b3' : Nat} (h : Runed n b0 b1 b2 b3 r w) (hn : w ≤ n') (h1 : 1 < w → b1' = b1) (h2 : 2 < w → b2' = b2) (h3 : 3 < w → b3' = b3) : Runed n' b0 b1' b2' b3' r w := by
  rcases h with ⟨k1, k2, k3⟩ | ⟨k1, k2, k3, k4, k5, k6⟩ | ⟨k1, k2, k3, k4, k5, k6, k7, k8⟩ | ⟨k1, k2, k3, k4, k5, k6, k7, k8, k9⟩
  · exact Or.inl ⟨k1, k2, k3⟩
  · have e1 := h1 (by omega)
    subst e1
    exact Or.inr (Or.inl ⟨k1, by omega, k3, k4, k5, k6⟩)
  · have e1 := h1 (by omega)
    have e2 := h2 (by omega)
    subst e1 e2
    exact Or.inr (Or.inr (Or.inl ⟨k1, by omega, k3, k4, k5, k6, k7, k8⟩))
  · have e1 := h1 (by omega)
    have e2 := h2 (by omega)
    have e3 := h3 (by omega)
    subst e1 e2 e3
    exact Or.inr (Or.inr (Or.inr ⟨k1, by omega, k3, k4, k5, k6, k7, k8, k9⟩))
/-- Does no rune begin here? -/
def badL (l : List UInt8) (i : Nat) : Bool := decide (decL l i = (65533, 1))
theorem good_of {l : List UInt8} {i : Nat} (h : badL l i = false) : Runed (l.length - i) (btL l i) (btL l (i + 1)) (btL l (i + 2)) (btL l (i + 3)) (decL l i).1 (decL l i).2 :=
  runed_of (of_decide_eq_false h)
theorem of_good {l : List UInt8} {i r w : Nat} (hi : i < l.length) (h : Runed (l.length - i) (btL l i) (btL l (i + 1)) (btL l (i + 2)) (btL l (i + 3)) r w) : decL l i = (r, w) ∧ badL l i = false := by
  have h1 : decL l i = (r, w) := of_runed h
  have h2 := (runed_w h (by omega)).2.2.2
  refine ⟨h1, ?_⟩
  unfold badL
  rw [decide_eq_false_iff_not, h1]
  exact h2
theorem width_L {l : List UInt8} {i : Nat} : 1 ≤ (decL l i).2 := decodeN_ge1 _ _ _ _ _

def okFrom (l : List UInt8) : Nat → Nat → Bool
  | 0, _ => true
  | f + 1, p => if p < l.length then (if badL l p = true then false else okFrom l f (p + (decL l p).2)) else true
def mayR (r : Nat) : Bool := !(decide (r < 32) || (decide (127 ≤ r) && decide (r ≤ 159))) && !(r == 47)
def mayFrom (l : List UInt8) : Nat → Nat → Bool
  | 0, _ => true
  | f + 1, p => if p < l.length then (if badL l p = true then false else if mayR (decL l p).1 = true then mayFrom l f (p + (decL l p).2) else false) else true
def allFrom (l : List UInt8) : Nat → Nat → Bool
  | 0, _ => true
  | f + 1, p => if p < l.length then (if mayR (decL l p).1 = true then allFrom l f (p + (decL l p).2) else false) else true
def cntFrom (l : List UInt8) : Nat → Nat → Nat
  | 0, _ => 0
  | f + 1, p => if p < l.length then 1 + cntFrom l f (p + (decL l p).2) else 0
theorem valid_from (l : List UInt8) : ∀ f p, validGoD f (l.drop p) = okFrom l f p
  | 0, _ => rfl
  | f + 1, p => by
    have hd : decodeL (l.drop p) = decL l p := by
      have := decodeL_drop ⟨l.toArray⟩ p
      rw [decode_L] at this
      simpa using this
    unfold validGoD okFrom
    rw [hd, List.drop_drop, valid_from l f]
    by_cases hp : p < l.length
    · rw [if_pos hp, if_neg (by intro h; have := congrArg List.length h; simp at this; omega)]
      have : ((decL l p).1 = 65533 ∧ (decL l p).2 = 1) ↔ badL l p = true := by
        unfold badL
        rw [decide_eq_true_eq, Prod.ext_iff]
      by_cases hb : badL l p = true
      · rw [if_pos hb, if_pos (this.2 hb)]
      · rw [if_neg hb, if_neg (fun h => hb (this.1 h))]
    · rw [if_neg hp, if_pos (List.drop_eq_nil_of_le (by omega))]
def validL (l : List UInt8) : Bool := okFrom l l.length 0
theorem valid_L (l : List UInt8) : validD l = validL l := by
  have := valid_from l l.length 0
  simpa [validD, validL] using this
theorem cnt_from (s : ByteArray) : ∀ f p, runeCountFrom s f p = cntFrom s.data.toList f p
  | 0, _ => rfl
  | f + 1, p => by
    unfold runeCountFrom cntFrom
    rw [decode_L, cnt_from s f, size_L]
def cntL (l : List UInt8) : Nat := cntFrom l l.length 0
theorem cnt_L (s : ByteArray) : runeCount s = cntL s.data.toList := by
  unfold runeCount cntL
  rw [cnt_from, size_L]
/-- Where all bytes are runes. -/
theorem may_split (l : List UInt8) : ∀ f p, mayFrom l f p = (okFrom l f p && allFrom l f p)
  | 0, _ => rfl
  | f + 1, p => by
    unfold mayFrom okFrom allFrom
    rw [may_split l f]
    by_cases hp : p < l.length
    · rw [if_pos hp, if_pos hp, if_pos hp]
      by_cases hb : badL l p = true
      · rw [if_pos hb, if_pos hb]
        rfl
      · rw [if_neg hb, if_neg hb]
        by_cases hm : mayR (decL l p).1 = true
        · rw [if_pos hm, if_pos hm]
        · rw [if_neg hm, if_neg hm]
          simp
    · rw [if_neg hp, if_neg hp, if_neg hp]
      rfl
def nameB (l : List UInt8) : Bool := decide (1 ≤ l.length) && (decide (l.length ≤ 20) && (!(btL l 0 == 32) && (!(btL l (l.length - 1) == 32) && mayFrom l l.length 0)))
theorem name_iff {l : List UInt8} : nameB l = true ↔ 1 ≤ l.length ∧ l.length ≤ 20 ∧ btL l 0 ≠ 32 ∧ btL l (l.length - 1) ≠ 32 ∧ mayFrom l l.length 0 = true := by
  unfold nameB
  simp [Bool.and_eq_true]
theorem cnt_le (l : List UInt8) : ∀ f p, cntFrom l f p ≤ f
  | 0, _ => Nat.le_refl _
  | f + 1, p => by
    have := cnt_le l f (p + (decL l p).2)
    unfold cntFrom
    split <;> omega
theorem cnt_pos {l : List UInt8} (h : 1 ≤ l.length) : 1 ≤ cntL l := by
  unfold cntL
  obtain ⟨n, hn⟩ : ∃ n, l.length = n + 1 := ⟨l.length - 1, by omega⟩
  rw [hn]
  unfold cntFrom
  rw [if_pos (by omega)]
  omega
/-- Fuel is enough: all are the same. -/
theorem may_fuel (l : List UInt8) : ∀ f g p, l.length ≤ p + f → l.length ≤ p + g → mayFrom l f p = mayFrom l g p
  | 0, 0, _, _, _ => rfl
  | 0, g + 1, p, h, _ => by
    unfold mayFrom
    rw [if_neg (by omega)]
  | f + 1, 0, p, _, h => by
    unfold mayFrom
    rw [if_neg (by omega)]
  | f + 1, g + 1, p, h1, h2 => by
    have hw := width_L (l := l) (i := p)
    unfold mayFrom
    rw [may_fuel l f g _ (by omega) (by omega)]
theorem cnt_fuel (l : List UInt8) : ∀ f g p, l.length ≤ p + f → l.length ≤ p + g → cntFrom l f p = cntFrom l g p
  | 0, 0, _, _, _ => rfl
  | 0, g + 1, p, h, _ => by
    unfold cntFrom
    rw [if_neg (by omega)]
  | f + 1, 0, p, _, h => by
    unfold cntFrom
    rw [if_neg (by omega)]
  | f + 1, g + 1, p, h1, h2 => by
    have hw := width_L (l := l) (i := p)
    unfold cntFrom
    rw [cnt_fuel l f g _ (by omega) (by omega)]
theorem bt_front (a t : List UInt8) {i : Nat} (h : i < a.length) : btL (a ++ t) i = btL a i := by
  unfold btL
  rw [List.getD_eq_getElem?_getD, List.getElem?_append_left h, ← List.getD_eq_getElem?_getD]
theorem bt_back (a t : List UInt8) (i : Nat) : btL (a ++ t) (a.length + i) = btL t i := by
  unfold btL
  rw [List.getD_eq_getElem?_getD, List.getElem?_append_right (by omega), Nat.add_sub_cancel_left, ← List.getD_eq_getElem?_getD]
theorem dec_agree {a S : List UInt8} {k p : Nat} (hp : p < a.length) (hg : badL a p = false) (hag : ∀ j, j < k → btL S j = btL a j) (hw : p + (decL a p).2 ≤ k) (hk : k ≤ S.length) : decL S p = decL a p ∧ badL S p = false := by
  have h := good_of hg
  have h1 := runed_w h (by omega)
  have h2 : Runed (S.length - p) (btL S p) (btL S (p + 1)) (btL S (p + 2)) (btL S (p + 3)) (decL a p).1 (decL a p).2 := by
    rw [hag p (by omega)]
    exact runed_move h (by omega) (fun h' => hag _ (by omega)) (fun h' => hag _ (by omega)) (fun h' => hag _ (by omega))
  exact of_good (by omega) h2
theorem may_step {l : List UInt8} {f p : Nat} (hp : p < l.length) (h : mayFrom l (f + 1) p = true) : badL l p = false ∧ mayR (decL l p).1 = true ∧ mayFrom l f (p + (decL l p).2) = true ∧ p + (decL l p).2 ≤ l.length := by
  unfold mayFrom at h
  rw [if_pos hp] at h
  by_cases hb : badL l p = true
  · rw [if_pos hb] at h
    cases h
  · rw [if_neg hb] at h
    have hb' : badL l p = false := by simpa using hb
    by_cases hm : mayR (decL l p).1 = true
    · rw [if_pos hm] at h
      have := runed_w (good_of hb') (by omega)
      exact ⟨hb', hm, h, by omega⟩
    · rw [if_neg hm] at h
      cases h
theorem step_may {l : List UInt8} {f p : Nat} (hp : p < l.length) (hb : badL l p = false) (hm : mayR (decL l p).1 = true) : mayFrom l (f + 1) p = mayFrom l f (p + (decL l p).2) := by
  rw [mayFrom, if_pos hp, hb, if_neg (by simp), if_pos hm]
theorem may_front {a S : List UInt8} (hag : ∀ j, j < a.length → btL S j = btL a j) (hk : a.length ≤ S.length) {G : Nat} (hG : S.length ≤ a.length + G) :
    ∀ f p F, mayFrom a f p = true → a.length ≤ p + f → p ≤ a.length → S.length ≤ p + F → mayFrom S F p = mayFrom S G a.length := by
  intro f
  induction f with
  | zero =>
    intro p F _ h1 h2 h3
    have : p = a.length := by omega
    subst this
    exact may_fuel S F G _ h3 hG
  | succ f ih =>
    intro p F h h1 h2 h3
    by_cases hp : p < a.length
    · obtain ⟨hb, hm, hr, hle⟩ := may_step hp h
      have hw := width_L (l := a) (i := p)
      obtain ⟨e1, e2⟩ := dec_agree hp hb hag hle hk
      obtain ⟨F', rfl⟩ : ∃ F', F = F' + 1 := ⟨F - 1, by omega⟩
      rw [step_may (by omega) e2 (by rw [e1]; exact hm), e1]
      exact ih _ _ hr (by omega) hle (by omega)
    · have : p = a.length := by omega
      subst this
      exact may_fuel S F G _ h3 hG
theorem dec_shift (a t : List UInt8) (p : Nat) : decL (a ++ t) (a.length + p) = decL t p := by
  unfold decL
  rw [Nat.add_assoc, Nat.add_assoc, Nat.add_assoc, bt_back, bt_back, bt_back, bt_back, List.length_append, show a.length + t.length - (a.length + p) = t.length - p by omega]
theorem may_shift (a t : List UInt8) : ∀ f p, mayFrom (a ++ t) f (a.length + p) = mayFrom t f p
  | 0, _ => rfl
  | f + 1, p => by
    have hb : badL (a ++ t) (a.length + p) = badL t p := by unfold badL; rw [dec_shift]
    rw [mayFrom, mayFrom, hb, dec_shift, Nat.add_assoc, may_shift a t f, List.length_append]
    by_cases hp : p < t.length
    · rw [if_pos hp, if_pos (by omega)]
    · rw [if_neg hp, if_neg (by omega)]
theorem may_append {a t : List UInt8} (h : mayFrom a a.length 0 = true) : mayFrom (a ++ t) (a ++ t).length 0 = mayFrom t t.length 0 := by
  have h1 := may_front (a := a) (S := a ++ t) (fun j hj => bt_front a t hj) (by simp) (G := t.length) (by simp) a.length 0 (a ++ t).length h (by omega) (by omega) (by omega)
  rw [h1]
  exact may_shift a t t.length 0
theorem name_both {a b : List UInt8} (ha : nameB a = true) (hb : nameB b = true) : nameB (a ++ [32] ++ b) = decide ((a ++ [32] ++ b).length ≤ 20) := by
  obtain ⟨a1, a2, a3, a4, a5⟩ := name_iff.1 ha
  obtain ⟨b1, b2, b3, b4, b5⟩ := name_iff.1 hb
  have e0 : a ++ [32] ++ b = a ++ (32 :: b) := by simp
  have hm : mayFrom (a ++ [32] ++ b) (a ++ [32] ++ b).length 0 = true := by
    rw [e0, may_append a5]
    have : (32 :: b : List UInt8) = [32] ++ b := rfl
    rw [this, may_append (by decide), b5]
  by_cases hl : (a ++ [32] ++ b).length ≤ 20
  · rw [decide_eq_true hl, name_iff]
    refine ⟨by simp; omega, hl, ?_, ?_, hm⟩
    · rw [e0, bt_front _ _ (by omega)]
      exact a3
    · rw [e0, show (a ++ 32 :: b).length - 1 = a.length + (1 + (b.length - 1)) by simp; omega, bt_back, show (32 :: b : List UInt8) = [32] ++ b from rfl, show 1 + (b.length - 1) = ([32] : List UInt8).length + (b.length - 1) from rfl, bt_back]
      exact b4
  · rw [decide_eq_false hl]
    cases hq : nameB (a ++ [32] ++ b)
    · rfl
    · exact absurd (name_iff.1 hq).2.1 hl
theorem name_blank_end (a : List UInt8) : nameB (a ++ [32]) = false := by
  cases hq : nameB (a ++ [32])
  · rfl
  · obtain ⟨_, _, _, h, _⟩ := name_iff.1 hq
    have e : (a ++ [32]).length - 1 = a.length + 0 := by simp
    rw [e, bt_back] at h
    exact absurd rfl h
theorem name_blank_front (a : List UInt8) : nameB ([32] ++ a) = false := by
  cases hq : nameB ([32] ++ a)
  · rfl
  · obtain ⟨_, _, h, _⟩ := name_iff.1 hq
    rw [bt_front _ _ (by simp)] at h
    exact absurd rfl h
/-- What ends no rune, and may not be. -/
theorem may_bad {a t : List UInt8} {k : Nat} (hk : k ≤ a.length) (ht : 1 ≤ t.length) (hx : btL t 0 / 64 ≠ 2) (hs : badL t 0 = true ∨ mayR (decL t 0).1 = false) :
    ∀ f p F, mayFrom a f p = true → a.length ≤ p + f → p ≤ k → k + t.length ≤ p + F → mayFrom (a.take k ++ t) F p = false := by
  have hl : (a.take k).length = k := by simp; omega
  have hS : (a.take k ++ t).length = k + t.length := by rw [List.length_append, hl]
  have hag : ∀ j, j < k → btL (a.take k ++ t) j = btL a j := fun j hj => by
    rw [bt_front _ _ (by omega)]
    unfold btL
    rw [List.getD_eq_getElem?_getD, List.getElem?_take, if_pos hj, ← List.getD_eq_getElem?_getD]
  have hat : ∀ j, btL (a.take k ++ t) (k + j) = btL t j := fun j => by
    have := bt_back (a.take k) t j
    rwa [hl] at this
  have hd : decL (a.take k ++ t) k = decL t 0 := by
    have := dec_shift (a.take k) t 0
    rwa [hl] at this
  have here : ∀ F, k + t.length ≤ k + F → mayFrom (a.take k ++ t) F k = false := by
    intro F hF
    obtain ⟨F', rfl⟩ : ∃ F', F = F' + 1 := ⟨F - 1, by omega⟩
    have hbk : badL (a.take k ++ t) k = badL t 0 := by unfold badL; rw [hd]
    rw [mayFrom, if_pos (by omega), hbk, hd]
    rcases hs with h | h
    · rw [if_pos h]
    · by_cases hb : badL t 0 = true
      · rw [if_pos hb]
      · rw [if_neg hb, if_neg (by rw [h]; simp)]
  intro f
  induction f with
  | zero =>
    intro p F _ h1 h2 h3
    have : p = k := by omega
    subst this
    exact here F h3
  | succ f ih =>
    intro p F h h1 h2 h3
    by_cases hpk : p = k
    · subst hpk
      exact here F h3
    · obtain ⟨hb, hm, hr, hle⟩ := may_step (by omega) h
      obtain ⟨F', rfl⟩ : ∃ F', F = F' + 1 := ⟨F - 1, by omega⟩
      have hw := width_L (l := a) (i := p)
      by_cases hw2 : p + (decL a p).2 ≤ k
      · obtain ⟨e1, e2⟩ := dec_agree (S := a.take k ++ t) (by omega) hb hag hw2 (by omega)
        rw [step_may (by omega) e2 (by rw [e1]; exact hm), e1]
        exact ih _ _ hr (by omega) hw2 (by omega)
      · rw [mayFrom, if_pos (by omega), if_pos]
        cases hq : badL (a.take k ++ t) p
        · exfalso
          have r1 := good_of hb
          have r2 := good_of hq
          rw [hag p (by omega)] at r2
          obtain ⟨j, hj, hj2⟩ : ∃ j, k = p + j ∧ 1 ≤ j := ⟨k - p, by omega, by omega⟩
          have hx2 : btL (a.take k ++ t) (p + j) / 64 ≠ 2 := by
            have h0 := hat 0
            rw [Nat.add_zero] at h0
            rw [← hj, h0]
            exact hx
          have hj4 : j < 4 := by
            have := (runed_w r1 (by omega)).2.2.1
            omega
          have h0 := bt_lt a p
          unfold Runed at r1 r2
          rcases (by omega : j = 1 ∨ j = 2 ∨ j = 3) with rfl | rfl | rfl <;> omega
        · rfl
theorem name_bad {a t : List UInt8} {k : Nat} (ha : nameB a = true) (hk : k ≤ a.length) (ht : 1 ≤ t.length) (hx : btL t 0 / 64 ≠ 2) (hs : badL t 0 = true ∨ mayR (decL t 0).1 = false) : nameB (a.take k ++ t) = false := by
  obtain ⟨_, _, _, _, a5⟩ := name_iff.1 ha
  cases hq : nameB (a.take k ++ t)
  · rfl
  · obtain ⟨_, _, _, _, h⟩ := name_iff.1 hq
    rw [may_bad hk ht hx hs a.length 0 _ a5 (by omega) (by omega) (by simp; omega)] at h
    cases h
theorem cnt_prefix {a : List UInt8} {c : Nat} (hc : c ≤ a.length) :
    ∀ f p F, okFrom (a.take c) f p = true → c ≤ p + f → p ≤ c → a.length ≤ p + F → cntFrom (a.take c) f p ≤ cntFrom a F p := by
  have hl : (a.take c).length = c := by simp; omega
  have hag : ∀ j, j < c → btL a j = btL (a.take c) j := fun j hj => by
    unfold btL
    rw [List.getD_eq_getElem?_getD, List.getD_eq_getElem?_getD, List.getElem?_take, if_pos hj]
  intro f
  induction f with
  | zero => intro p F _ _ _ _; exact Nat.zero_le _
  | succ f ih =>
    intro p F h h1 h2 h3
    by_cases hp : p < c
    · unfold okFrom at h
      rw [if_pos (by omega)] at h
      by_cases hb : badL (a.take c) p = true
      · rw [if_pos hb] at h
        cases h
      · rw [if_neg hb] at h
        have hb' : badL (a.take c) p = false := by simpa using hb
        have hw := runed_w (good_of hb') (by omega)
        obtain ⟨e1, e2⟩ := dec_agree (S := a) (k := c) (by omega) hb' hag (by omega) hc
        obtain ⟨F', rfl⟩ : ∃ F', F = F' + 1 := ⟨F - 1, by omega⟩
        have := ih (p + (decL (a.take c) p).2) F' h (by omega) (by omega) (by omega)
        rw [cntFrom, cntFrom, if_pos (by omega), if_pos (by omega), e1]
        omega
    · rw [cntFrom, if_neg (by omega)]
      omega
theorem cnt_less {a : List UInt8} {c : Nat} (hc : c ≤ a.length) (hv : validL (a.take c) = true) : cntL (a.take c) ≤ cntL a := by
  have hl : (a.take c).length = c := by simp; omega
  unfold cntL validL at *
  exact cnt_prefix hc _ 0 _ hv (by omega) (by omega) (by omega)
end Go.Proofs.YtjclafigbfnemaaDoor
