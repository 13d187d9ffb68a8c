/- How many bits a word has: by bytes. -/
import Derived.Test.YtnbiioighjdkjaaDoorRaO
namespace Go.Proofs.YtnbiioighjdkjaaDoor
open Go.ChangeShapes Go.WideShapes Go.ChangeAt Go.RowKit
set_option linter.unusedSimpArgs false
set_option linter.unusedVariables false

def val : List Nat → Nat
  | [] => 0
  | b :: bs => b + 256 * val bs
def msk (m : Nat) : Nat → Nat
  | 0 => 0
  | n + 1 => m + 256 * msk m n
def pop4 (n : Nat) : Nat := n % 2 + n / 2 % 2 + n / 4 % 2 + n / 8 % 2
def pop8 (b : Nat) : Nat := pop4 (b % 16) + pop4 (b / 16 % 16)
def bytesN (x : Nat) : List Nat := [x % 256, x / 256 % 256, x / 65536 % 256, x / 16777216 % 256, x / 4294967296 % 256, x / 1099511627776 % 256, x / 281474976710656 % 256, x / 72057594037927936 % 256]
def popN (x : Nat) : Nat := ((bytesN x).map pop8).sum
theorem val_bytes (x : Nat) (hx : x < 18446744073709551616) : val (bytesN x) = x := by
  unfold bytesN
  simp only [val]
  omega
theorem bytes_lt (x : Nat) : ∀ b ∈ bytesN x, b < 256 := by
  intro b hb
  unfold bytesN at hb
  simp only [List.mem_cons, List.not_mem_nil, or_false] at hb
  omega
theorem and_split (x m M : Nat) (hm : m < 256) : x &&& (m + 256 * M) = (x % 256 &&& m) + 256 * (x / 256 &&& M) := by
  have h1 := Nat.mod_add_div (x &&& (m + 256 * M)) 256
  have h2 : (x &&& (m + 256 * M)) % 2 ^ 8 = x % 2 ^ 8 &&& (m + 256 * M) % 2 ^ 8 := Nat.and_mod_two_pow
  have h3 : (x &&& (m + 256 * M)) / 2 ^ 8 = x / 2 ^ 8 &&& (m + 256 * M) / 2 ^ 8 := Nat.and_div_two_pow
  rw [show (2 : Nat) ^ 8 = 256 by decide] at h2 h3
  rw [show (m + 256 * M) % 256 = m by omega] at h2
  rw [show (m + 256 * M) / 256 = M by omega] at h3
  rw [h2, h3] at h1
  exact h1.symm
theorem low85 : ∀ c, c < 128 → ∀ t, t < 2 → (c + 128 * t) &&& 85 = c &&& 85 := by decide +kernel
theorem low51 : ∀ c, c < 64 → ∀ t, t < 4 → (c + 64 * t) &&& 51 = c &&& 51 := by decide +kernel
def f1 (b : Nat) : Nat := (b / 2 &&& 85) + (b &&& 85)
def f2 (b : Nat) : Nat := (b / 4 &&& 51) + (b &&& 51)
def f3 (q : Nat) : Nat := q / 16 + q % 16
theorem f_all : ∀ b, b < 256 → f1 b < 256 ∧ f2 (f1 b) / 16 ≤ 4 ∧ f2 (f1 b) % 16 ≤ 4 ∧ f2 (f1 b) ≤ 68 ∧ f3 (f2 (f1 b)) = pop8 b ∧ pop8 b ≤ 8 := by decide +kernel
theorem g1_val : ∀ bs : List Nat, (∀ b ∈ bs, b < 256) → (val bs / 2 &&& msk 85 bs.length) + (val bs &&& msk 85 bs.length) = val (bs.map f1)
  | [], _ => rfl
  | b :: bs, h => by
    have ih := g1_val bs (fun x hx => h x (List.mem_cons_of_mem _ hx))
    have hb := h b (List.mem_cons_self ..)
    simp only [val, List.length_cons, msk, List.map_cons]
    rw [and_split _ 85 _ (by omega), and_split _ 85 _ (by omega), ← ih]
    rw [show (b + 256 * val bs) / 2 % 256 = b / 2 + 128 * (val bs % 2) by omega, show (b + 256 * val bs) / 2 / 256 = val bs / 2 by omega, show (b + 256 * val bs) % 256 = b by omega, show (b + 256 * val bs) / 256 = val bs by omega, low85 _ (by omega) _ (by omega)]
    unfold f1
    omega
theorem g2_val : ∀ bs : List Nat, (∀ b ∈ bs, b < 256) → (val bs / 4 &&& msk 51 bs.length) + (val bs &&& msk 51 bs.length) = val (bs.map f2)
  | [], _ => rfl
  | b :: bs, h => by
    have ih := g2_val bs (fun x hx => h x (List.mem_cons_of_mem _ hx))
    have hb := h b (List.mem_cons_self ..)
    simp only [val, List.length_cons, msk, List.map_cons]
    rw [and_split _ 51 _ (by omega), and_split _ 51 _ (by omega), ← ih]
    rw [show (b + 256 * val bs) / 4 % 256 = b / 4 + 64 * (val bs % 4) by omega, show (b + 256 * val bs) / 4 / 256 = val bs / 4 by omega, show (b + 256 * val bs) % 256 = b by omega, show (b + 256 * val bs) / 256 = val bs by omega, low51 _ (by omega) _ (by omega)]
    unfold f2
    omega
theorem val_mod : ∀ qs : List Nat, (∀ q ∈ qs, q / 16 ≤ 4 ∧ q % 16 ≤ 4) → val qs % 16 ≤ 4
  | [], _ => by simp [val]
  | q :: qs, h => by
    have := h q (List.mem_cons_self ..)
    simp only [val]
    omega
theorem g3_val : ∀ qs : List Nat, (∀ q ∈ qs, q / 16 ≤ 4 ∧ q % 16 ≤ 4) → (val qs / 16 + val qs) &&& msk 15 qs.length = val (qs.map f3)
  | [], _ => rfl
  | q :: qs, h => by
    have ih := g3_val qs (fun x hx => h x (List.mem_cons_of_mem _ hx))
    have hm := val_mod qs (fun x hx => h x (List.mem_cons_of_mem _ hx))
    have hq := h q (List.mem_cons_self ..)
    simp only [val, List.length_cons, msk, List.map_cons]
    rw [and_split _ 15 _ (by omega), ← ih]
    have e : ((q + 256 * val qs) / 16 + (q + 256 * val qs)) % 256 &&& 15 = f3 q := by
      have := Nat.and_two_pow_sub_one_eq_mod (((q + 256 * val qs) / 16 + (q + 256 * val qs)) % 256) 4
      rw [show 2 ^ 4 - 1 = 15 by decide] at this
      rw [this]
      unfold f3
      omega
    rw [e, show ((q + 256 * val qs) / 16 + (q + 256 * val qs)) / 256 = val qs / 16 + val qs by omega]
theorem val_le (k : Nat) : ∀ qs : List Nat, (∀ q ∈ qs, q ≤ k) → val qs ≤ k * msk 1 qs.length
  | [], _ => by simp [val]
  | q :: qs, h => by
    have ih := val_le k qs (fun x hx => h x (List.mem_cons_of_mem _ hx))
    have hq := h q (List.mem_cons_self ..)
    simp only [val, List.length_cons, msk]
    rw [Nat.mul_add, Nat.mul_left_comm]
    omega
theorem fi1 (c0 c1 c2 c3 c4 c5 c6 c7 : Nat) : c0 + 256 * (c1 + 256 * (c2 + 256 * (c3 + 256 * (c4 + 256 * (c5 + 256 * (c6 + 256 * (c7 + 256 * 0))))))) = c0 + 256 * (c1 + 256 * c2 + 65536 * c3 + 16777216 * c4 + 4294967296 * c5 + 1099511627776 * c6 + 281474976710656 * c7) := by omega
theorem fi2 (c0 c1 c2 c3 c4 c5 c6 c7 : Nat) : c0 + 256 * (c1 + 256 * c2 + 65536 * c3 + 16777216 * c4 + 4294967296 * c5 + 1099511627776 * c6 + 281474976710656 * c7) + (c1 + 256 * c2 + 65536 * c3 + 16777216 * c4 + 4294967296 * c5 + 1099511627776 * c6 + 281474976710656 * c7) = (c0 + c1 + 256 * (c1 + c2)) + 65536 * ((c2 + c3) + 256 * (c3 + c4) + 65536 * (c4 + c5) + 16777216 * (c5 + c6) + 4294967296 * (c6 + c7) + 1099511627776 * c7) := by omega
theorem fi3 (c0 c1 c2 c3 c4 c5 c6 c7 : Nat) : (c0 + c1 + 256 * (c1 + c2)) + 65536 * ((c2 + c3) + 256 * (c3 + c4) + 65536 * (c4 + c5) + 16777216 * (c5 + c6) + 4294967296 * (c6 + c7) + 1099511627776 * c7) + ((c2 + c3) + 256 * (c3 + c4) + 65536 * (c4 + c5) + 16777216 * (c5 + c6) + 4294967296 * (c6 + c7) + 1099511627776 * c7) = (c0 + c1 + c2 + c3 + 256 * (c1 + c2 + c3 + c4) + 65536 * (c2 + c3 + c4 + c5) + 16777216 * (c3 + c4 + c5 + c6)) + 4294967296 * ((c4 + c5 + c6 + c7) + 256 * (c5 + c6 + c7) + 65536 * (c6 + c7) + 16777216 * c7) := by omega
theorem fi4 (c0 c1 c2 c3 c4 c5 c6 c7 D3 : Nat) (hD3 : (c4 + c5 + c6 + c7) + 256 * (c5 + c6 + c7) + 65536 * (c6 + c7) + 16777216 * c7 = D3) : c0 + c1 + c2 + c3 + 256 * (c1 + c2 + c3 + c4) + 65536 * (c2 + c3 + c4 + c5) + 16777216 * (c3 + c4 + c5 + c6) + 4294967296 * D3 + D3 = (c0 + (c1 + (c2 + (c3 + (c4 + (c5 + (c6 + (c7 + 0)))))))) + 128 * (2 * (c1 + c2 + c3 + c4) + 512 * (c2 + c3 + c4 + c5) + 131072 * (c3 + c4 + c5 + c6) + 33554432 * D3 + 2 * (c5 + c6 + c7) + 512 * (c6 + c7) + 131072 * c7) := by omega
theorem fb (c0 c1 c2 c3 c4 c5 c6 c7 : Nat) (h0 : c0 ≤ 8) (h1 : c1 ≤ 8) (h2 : c2 ≤ 8) (h3 : c3 ≤ 8) (h4 : c4 ≤ 8) (h5 : c5 ≤ 8) (h6 : c6 ≤ 8) (h7 : c7 ≤ 8) : c0 < 256 ∧ c0 + c1 + 256 * (c1 + c2) < 65536 ∧ c0 + c1 + c2 + c3 + 256 * (c1 + c2 + c3 + c4) + 65536 * (c2 + c3 + c4 + c5) + 16777216 * (c3 + c4 + c5 + c6) < 4294967296 ∧ c0 + (c1 + (c2 + (c3 + (c4 + (c5 + (c6 + (c7 + 0))))))) < 128 := by omega
theorem fold8 (S3 c0 c1 c2 c3 c4 c5 c6 c7 : Nat) (e3 : S3 = c0 + 256 * (c1 + 256 * (c2 + 256 * (c3 + 256 * (c4 + 256 * (c5 + 256 * (c6 + 256 * (c7 + 256 * 0)))))))) (h0 : c0 ≤ 8) (h1 : c1 ≤ 8) (h2 : c2 ≤ 8) (h3 : c3 ≤ 8) (h4 : c4 ≤ 8) (h5 : c5 ≤ 8) (h6 : c6 ≤ 8) (h7 : c7 ≤ 8) :
    (S3 + S3 / 256 + (S3 + S3 / 256) / 65536 + (S3 + S3 / 256 + (S3 + S3 / 256) / 65536) / 4294967296) % 128 = c0 + (c1 + (c2 + (c3 + (c4 + (c5 + (c6 + (c7 + 0))))))) := by
  obtain ⟨b1, b2, b3, b4⟩ := fb c0 c1 c2 c3 c4 c5 c6 c7 h0 h1 h2 h3 h4 h5 h6 h7
  have i2 := fi2 c0 c1 c2 c3 c4 c5 c6 c7
  have i3 := fi3 c0 c1 c2 c3 c4 c5 c6 c7
  have i4 := fi4 c0 c1 c2 c3 c4 c5 c6 c7
  rw [fi1] at e3
  obtain ⟨D1, hD1⟩ : ∃ D, c1 + 256 * c2 + 65536 * c3 + 16777216 * c4 + 4294967296 * c5 + 1099511627776 * c6 + 281474976710656 * c7 = D := ⟨_, rfl⟩
  obtain ⟨D2, hD2⟩ : ∃ D, (c2 + c3) + 256 * (c3 + c4) + 65536 * (c4 + c5) + 16777216 * (c5 + c6) + 4294967296 * (c6 + c7) + 1099511627776 * c7 = D := ⟨_, rfl⟩
  obtain ⟨D3, hD3⟩ : ∃ D, (c4 + c5 + c6 + c7) + 256 * (c5 + c6 + c7) + 65536 * (c6 + c7) + 16777216 * c7 = D := ⟨_, rfl⟩
  have i5 := i4 D3 hD3
  clear i4
  rw [hD1] at e3 i2
  rw [hD2] at i2 i3
  rw [hD3] at i3
  have k1 : S3 / 256 = D1 := by rw [e3, Nat.add_mul_div_left _ _ (by decide), Nat.div_eq_of_lt b1, Nat.zero_add]
  rw [k1, e3, i2, Nat.add_mul_div_left _ _ (by decide), Nat.div_eq_of_lt b2, Nat.zero_add, i3, Nat.add_mul_div_left _ _ (by decide), Nat.div_eq_of_lt b3, Nat.zero_add, i5, Nat.add_mul_mod_self_left, Nat.mod_eq_of_lt b4]
/-- The whole way. -/
theorem pop_way (x : Nat) (hx : x < 18446744073709551616) :
    ∃ A1 A2 S1 A3 A4 S2 Z S3 S4 S5 S6 : Nat, x / 2 &&& 6148914691236517205 = A1 ∧ x &&& 6148914691236517205 = A2 ∧ A1 + A2 = S1 ∧ S1 / 4 &&& 3689348814741910323 = A3 ∧ S1 &&& 3689348814741910323 = A4 ∧ A3 + A4 = S2 ∧ S2 / 16 + S2 = Z ∧ Z &&& 1085102592571150095 = S3 ∧ S3 + S3 / 256 = S4 ∧ S4 + S4 / 65536 = S5 ∧ S5 + S5 / 4294967296 = S6 ∧
      S1 < 18446744073709551616 ∧ S2 < 18446744073709551616 ∧ Z < 18446744073709551616 ∧ S3 ≤ 578721382704613384 ∧ S4 < 1000000000000000000 ∧ S5 < 1000000000000000000 ∧ S6 < 1000000000000000000 ∧ S6 % 128 = popN x := by
  obtain ⟨bs, hbs⟩ : ∃ bs, bytesN x = bs := ⟨_, rfl⟩
  have hl : bs.length = 8 := by rw [← hbs]; rfl
  have hv := val_bytes x hx
  have hlt := bytes_lt x
  have hp : popN x = (bs.map pop8).sum := by unfold popN; rw [hbs]
  rw [hbs] at hv hlt
  have e1 := g1_val bs hlt
  have l1 : ∀ b ∈ bs.map f1, b < 256 := by
    intro b hb
    obtain ⟨c, hc, rfl⟩ := List.mem_map.1 hb
    exact (f_all c (hlt c hc)).1
  have e2 := g2_val _ l1
  have l2 : ∀ q ∈ (bs.map f1).map f2, q / 16 ≤ 4 ∧ q % 16 ≤ 4 := by
    intro q hq
    obtain ⟨c, hc, rfl⟩ := List.mem_map.1 hq
    obtain ⟨d, hd, rfl⟩ := List.mem_map.1 hc
    have := f_all d (hlt d hd)
    exact ⟨this.2.1, this.2.2.1⟩
  have e3 := g3_val _ l2
  have em : ((bs.map f1).map f2).map f3 = bs.map pop8 := by
    rw [List.map_map, List.map_map]
    apply List.map_congr_left
    intro b hb
    exact (f_all b (hlt b hb)).2.2.2.2.1
  rw [em] at e3
  have k1 := val_le 255 (bs.map f1) (fun b hb => by have := l1 b hb; omega)
  have k2 := val_le 68 ((bs.map f1).map f2) (fun q hq => by have := l2 q hq; omega)
  simp only [List.length_map, hl] at e1 e2 e3 k1 k2
  rw [show msk 85 8 = 6148914691236517205 by decide] at e1
  rw [show msk 51 8 = 3689348814741910323 by decide] at e2
  rw [show msk 15 8 = 1085102592571150095 by decide] at e3
  rw [show msk 1 8 = 72340172838076673 by decide] at k1 k2
  rw [hv] at e1
  obtain ⟨c0, c1, c2, c3, c4, c5, c6, c7, hc, h0, h1, h2, h3, h4, h5, h6, h7⟩ : ∃ c0 c1 c2 c3 c4 c5 c6 c7, bs.map pop8 = [c0, c1, c2, c3, c4, c5, c6, c7] ∧ c0 ≤ 8 ∧ c1 ≤ 8 ∧ c2 ≤ 8 ∧ c3 ≤ 8 ∧ c4 ≤ 8 ∧ c5 ≤ 8 ∧ c6 ≤ 8 ∧ c7 ≤ 8 := by
    rw [← hbs] at hlt ⊢
    unfold bytesN at hlt ⊢
    simp only [List.mem_cons, List.not_mem_nil, or_false, forall_eq_or_imp, forall_eq] at hlt
    obtain ⟨a0, a1, a2, a3, a4, a5, a6, a7⟩ := hlt
    exact ⟨_, _, _, _, _, _, _, _, rfl, (f_all _ a0).2.2.2.2.2, (f_all _ a1).2.2.2.2.2, (f_all _ a2).2.2.2.2.2, (f_all _ a3).2.2.2.2.2, (f_all _ a4).2.2.2.2.2, (f_all _ a5).2.2.2.2.2, (f_all _ a6).2.2.2.2.2, (f_all _ a7).2.2.2.2.2⟩
  rw [hc] at e3 hp
  simp only [val, List.sum_cons, List.sum_nil] at e3 hp
  obtain ⟨S1, hS1⟩ : ∃ S, val (bs.map f1) = S := ⟨_, rfl⟩
  obtain ⟨S2, hS2⟩ : ∃ S, val ((bs.map f1).map f2) = S := ⟨_, rfl⟩
  rw [hS1] at e1 e2 k1
  rw [hS2] at e2 e3 k2
  obtain ⟨S3, hS3⟩ : ∃ S, (S2 / 16 + S2) &&& 1085102592571150095 = S := ⟨_, rfl⟩
  rw [hS3] at e3
  rw [hp]
  clear hc hp em hlt l1 l2 hv hl hbs
  refine ⟨_, _, S1, _, _, S2, _, S3, _, _, _, rfl, rfl, e1, rfl, rfl, e2, rfl, hS3, rfl, rfl, rfl, ?_, ?_, ?_, ?_, ?_, ?_, ?_, ?_⟩
  · omega
  · omega
  · omega
  · omega
  · omega
  · omega
  · omega
  · exact fold8 S3 c0 c1 c2 c3 c4 c5 c6 c7 e3 h0 h1 h2 h3 h4 h5 h6 h7
theorem popN_le (x : Nat) : popN x ≤ 64 := by
  have h := bytes_lt x
  unfold popN bytesN at *
  simp only [List.mem_cons, List.not_mem_nil, or_false, forall_eq_or_imp, forall_eq] at h
  obtain ⟨a0, a1, a2, a3, a4, a5, a6, a7⟩ := h
  have p0 := (f_all _ a0).2.2.2.2.2
  have p1 := (f_all _ a1).2.2.2.2.2
  have p2 := (f_all _ a2).2.2.2.2.2
  have p3 := (f_all _ a3).2.2.2.2.2
  have p4 := (f_all _ a4).2.2.2.2.2
  have p5 := (f_all _ a5).2.2.2.2.2
  have p6 := (f_all _ a6).2.2.2.2.2
  have p7 := (f_all _ a7).2.2.2.2.2
  simp only [List.map_cons, List.map_nil, List.sum_cons, List.sum_nil]
  omega
theorem i64_and127 (a : Nat) (ha : a < 1000000000000000000) : bits .and .i64 (wrap64 (a : Int)) 127 = ((a % 128 : Nat) : Int) := by
  have e : wrap64 (a : Int) = (a : Int) := by unfold wrap64; omega
  rw [e]
  have h7 := Nat.and_two_pow_sub_one_eq_mod a 7
  rw [show 2 ^ 7 - 1 = 127 by decide] at h7
  rw [← h7]
  show IntKind.i64.wrap ((BitVec.ofInt 64 (a : Int) &&& BitVec.ofInt 64 ((127 : Nat) : Int)).toNat : Int) = _
  rw [BitVec.toNat_and, ofInt_u64 a (by omega), ofInt_u64 127 (by omega), h7, IntKind.wrap_i64]
  omega
def sumN (f : Nat → Nat) : Nat → Nat
  | 0 => 0
  | n + 1 => sumN f n + f n
theorem sumN_le (f g : Nat → Nat) : ∀ n, (∀ y, y < n → f y ≤ g y) → sumN f n ≤ sumN g n
  | 0, _ => Nat.le_refl _
  | n + 1, h => Nat.add_le_add (sumN_le f g n (fun y hy => h y (by omega))) (h n (by omega))
theorem sumN_bd (f : Nat → Nat) (k : Nat) : ∀ n, (∀ y, f y ≤ k) → sumN f n ≤ k * n
  | 0, _ => Nat.zero_le _
  | n + 1, h => by
    have := sumN_bd f k n h
    have := h n
    simp only [sumN, Nat.mul_add]
    omega

set_option maxRecDepth 100000 in
set_option maxHeartbeats 4000000 in
theorem ones_any (x : Nat) (w : World) (hx : x < 18446744073709551616) : Calls Tryd.prog 23 #[.int .u64 (x : Int)] w fun e' w' => e' = .returned (.int .i64 ((popN x : Nat) : Int)) ∧ w = w' := by
  obtain ⟨A1, A2, S1, A3, A4, S2, Z, S3, S4, S5, S6, q1, q2, q3, q4, q5, q6, q7, q8, q9, q10, q11, b1, b2, b3, b4, b5, b6, b7, hr⟩ := pop_way x hx
  have e1 : bits .and .u64 ((x : Int) / 2) 6148914691236517205 = (A1 : Int) := by
    rw [← q1]
    exact u64_and_nat (x / 2) 6148914691236517205 (by omega) (by decide)
  have e2 : bits .and .u64 (x : Int) 6148914691236517205 = (A2 : Int) := by
    rw [← q2]
    exact u64_and_nat x 6148914691236517205 hx (by decide)
  have e3 : IntKind.u64.wrap ((A1 : Int) + (A2 : Int)) = (S1 : Int) := by
    have := wrap_u64 S1 b1
    rw [← q3] at this ⊢
    exact this
  have e4 : bits .and .u64 ((S1 : Int) / 4) 3689348814741910323 = (A3 : Int) := by
    rw [← q4]
    exact u64_and_nat (S1 / 4) 3689348814741910323 (by omega) (by decide)
  have e5 : bits .and .u64 (S1 : Int) 3689348814741910323 = (A4 : Int) := by
    rw [← q5]
    exact u64_and_nat S1 3689348814741910323 b1 (by decide)
  have e6 : IntKind.u64.wrap ((A3 : Int) + (A4 : Int)) = (S2 : Int) := by
    have := wrap_u64 S2 b2
    rw [← q6] at this ⊢
    exact this
  have e7 : IntKind.u64.wrap ((S2 : Int) / 16 + (S2 : Int)) = (Z : Int) := by
    have := wrap_u64 Z b3
    rw [← q7] at this ⊢
    exact this
  have e8 : bits .and .u64 (Z : Int) 1085102592571150095 = (S3 : Int) := by
    rw [← q8]
    exact u64_and_nat Z 1085102592571150095 b3 (by decide)
  have e9 : IntKind.u64.wrap ((S3 : Int) + (S3 : Int) / 256) = (S4 : Int) := by
    have := wrap_u64 S4 (by omega)
    rw [← q9] at this ⊢
    exact this
  have e10 : IntKind.u64.wrap ((S4 : Int) + (S4 : Int) / 65536) = (S5 : Int) := by
    have := wrap_u64 S5 (by omega)
    rw [← q10] at this ⊢
    exact this
  have e11 : IntKind.u64.wrap ((S5 : Int) + (S5 : Int) / 4294967296) = (S6 : Int) := by
    have := wrap_u64 S6 (by omega)
    rw [← q11] at this ⊢
    exact this
  have e12 := i64_and127 S6 b7
  rw [hr] at e12
  have HE := Lib.hid e12
  clear e12
  clear q1 q2 q3 q4 q5 q6 q7 q8 q9 q10 q11 b1 b2 b3 b4 b5 b6 b7 hr hx
  go_enter Tryd.func23, Tryd.ntmps23
  go_wp2
  go_ret
  exact ⟨congrArg (fun z => Ending.returned (Value.int .i64 z)) HE.out, rfl⟩
end Go.Proofs.YtnbiioighjdkjaaDoor
