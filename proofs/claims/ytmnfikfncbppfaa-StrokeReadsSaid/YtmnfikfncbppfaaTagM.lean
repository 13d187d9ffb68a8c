/- Numbers in bytes, tags, raw pages: plainly. No program in sight. -/
import Derived.Test.YtmnfikfncbppfaaCrcMore
import Derived.Test.YtmnfikfncbppfaaCrcBitsM
namespace Go.Proofs.Ytmnfikfncbppfaa

/-- The lowest n bytes of v, the highest first. -/
def beB (v n : Nat) : List Nat := (List.range n).map fun i => v / 2 ^ (8 * (n - 1 - i)) % 256
def numB (bs : List Nat) : Nat := bs.foldl (fun a b => a * 256 + b) 0

theorem beB_len (v n : Nat) : (beB v n).length = n := by simp [beB]
theorem beB_8 (v n : Nat) : Bytes8 (beB v n) := by
  intro b hb
  obtain ⟨i, _, rfl⟩ := List.mem_map.1 hb
  omega
theorem beB_snoc (v n k : Nat) (hk : k < n) : (beB v n).take (k + 1) = (beB v n).take k ++ [v / 2 ^ (8 * (n - 1 - k)) % 256] := by
  rw [List.take_succ_eq_append_getElem (by rw [beB_len]; exact hk)]
  simp [beB]
theorem beB_2 (v : Nat) : beB v 2 = [v / 256 % 256, v % 256] := by simp [beB, List.range_succ]
theorem beB_3 (v : Nat) : beB v 3 = [v / 65536 % 256, v / 256 % 256, v % 256] := by simp [beB, List.range_succ]
theorem beB_4 (v : Nat) : beB v 4 = [v / 16777216 % 256, v / 65536 % 256, v / 256 % 256, v % 256] := by simp [beB, List.range_succ]
theorem num_be2 {v : Nat} (h : v < 65536) : numB (beB v 2) = v := by rw [beB_2]; simp [numB]; omega
theorem num_be3 {v : Nat} (h : v < 16777216) : numB (beB v 3) = v := by rw [beB_3]; simp [numB]; omega
theorem num_be4 {v : Nat} (h : v < 4294967296) : numB (beB v 4) = v := by rw [beB_4]; simp [numB]; omega
theorem be_num2 {bs : List Nat} (hl : bs.length = 2) (h : Bytes8 bs) : beB (numB bs) 2 = bs ∧ numB bs < 65536 := by
  match bs, hl with
  | [a, b], _ =>
    have ha := h a (by simp)
    have hb := h b (by simp)
    rw [beB_2]
    simp [numB]
    omega
theorem be_num3 {bs : List Nat} (hl : bs.length = 3) (h : Bytes8 bs) : beB (numB bs) 3 = bs ∧ numB bs < 16777216 := by
  match bs, hl with
  | [a, b, c], _ =>
    have ha := h a (by simp)
    have hb := h b (by simp)
    have hc := h c (by simp)
    rw [beB_3]
    simp [numB]
    omega
theorem be_num4 {bs : List Nat} (hl : bs.length = 4) (h : Bytes8 bs) : beB (numB bs) 4 = bs ∧ numB bs < 4294967296 := by
  match bs, hl with
  | [a, b, c, d], _ =>
    have ha := h a (by simp)
    have hb := h b (by simp)
    have hc := h c (by simp)
    have hd := h d (by simp)
    rw [beB_4]
    simp [numB]
    omega
theorem numB_snoc (bs : List Nat) (b : Nat) : numB (bs ++ [b]) = numB bs * 256 + b := by simp [numB]
theorem numB_next {bs : List Nat} {k : Nat} (hk : k < bs.length) : numB (bs.take (k + 1)) = numB (bs.take k) * 256 + bs[k] := by
  rw [List.take_succ_eq_append_getElem hk, numB_snoc]
theorem numB_lt : ∀ {k : Nat} {bs : List Nat}, Bytes8 bs → k ≤ bs.length → numB (bs.take k) < 256 ^ k
  | 0, _, _, _ => by simp [numB]
  | k + 1, bs, h, hk => by
    have ih := numB_lt (k := k) h (by omega)
    have hb := h bs[k] (List.getElem_mem _)
    rw [numB_next (by omega), Nat.pow_succ]
    omega
end Go.Proofs.Ytmnfikfncbppfaa
