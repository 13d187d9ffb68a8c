/- More and Of, the program's and the answer's own. -/
import Derived.Test.YtjmochkhdapmiaaCrcPut
namespace Go.Proofs.Ytjmochkhdapmiaa
open Go.ChangeShapes Go.WideShapes Go.ChangeAt Go.RowKit

/-- All are bytes. -/
def Bytes8 (bs : List Nat) : Prop := ∀ b ∈ bs, b < 256
theorem Bytes8.at_ {bs : List Nat} (h : Bytes8 bs) (k : Nat) : bs.getD k 0 < 256 := by
  rcases Nat.lt_or_ge k bs.length with hk | hk
  · simp only [List.getD_eq_getElem?_getD, List.getElem?_eq_getElem hk, Option.getD_some]
    exact h _ (List.getElem_mem _)
  · simp [List.getElem?_eq_none hk]

theorem crcReg_next (bs : List Nat) (r : Nat) (k : Nat) (h : k < bs.length) : crcReg r (bs.take (k + 1)) = crcPut 8 (crcReg r (bs.take k)) (bs.getD k 0) := by
  rw [List.take_succ_eq_append_getElem h, crcReg_append]
  simp [h, crcReg]

set_option maxRecDepth 100000 in
set_option maxHeartbeats 4000000 in
theorem more_any (s : Nat) (bs : List Nat) (A : Option Addr) (c : Nat) (w : World) (hs : s < 4294967296) (h1 : Sl w w.heap.size A (bs.map byteV)) (h8 : Bytes8 bs) (n1 : bs.length ≤ 1000000000) :
    Calls Try.prog 34 #[.int .u32 (s : Int), .slice A bs.length c] w fun e w' => e = .returned (.int .u32 (crcMore s bs : Nat)) ∧ w' = w := by
  have hn := not_lt hs
  have en := crcNot hs
  obtain ⟨s0, hs0⟩ : ∃ z, z = 4294967295 ^^^ s := ⟨_, rfl⟩
  rw [← hs0] at en hn
  go_enter Try.func34, Try.ntmps34
  go_wp2
  go_loopw [5, 12] (fun rv i wr => ∃ k r1 : Nat, k ≤ bs.length ∧ i = .int .i64 k ∧ rv = .int .u32 (r1 : Int) ∧ r1 < 4294967296 ∧ Hid (r1 = crcReg s0 (bs.take k)) ∧ wr = w) (fun _ i _ => bs.length - (intOf i).toNat)
  case atStart => exact ⟨0, s0, by omega, rfl, by rw [hs0], hn, Lib.hid rfl, rfl⟩
  case round =>
    obtain ⟨k, r1, hk, rfl, rfl, hr1, he, rfl⟩ := hrel
    by_cases hlt : k < bs.length
    · obtain ⟨b1, o1, rfl, l1, q1⟩ := h1.at_ (by simpa using (by omega : 0 < bs.length))
      have hx := h8.at_ k
      have hg := crcReg_next bs s0 k hlt
      obtain ⟨x, hxe⟩ : ∃ x, bs.getD k 0 = x := ⟨_, rfl⟩
      have ck : wr.cell? ⟨b1, o1 + k, none⟩ = some (.int .u8 (x : Int)) := q1 k _ (by rw [← hxe]; simp [hlt, byteV])
      rw [hxe] at hx hg
      rw [← he.out] at hg
      have Hg := Lib.hid hg
      clear hg hxe q1 he
      have hp := crcPut_lt (k := 8) (x := x) hr1
      have i1 : (0 : Int) ≤ (k : Int) := by omega
      have i2 : (k : Int) < (bs.length : Int) := by omega
      go_wp2_with (go_at_call 37; refine (put_any _ _ _ hr1 hx).mono ?_; rintro e w' ⟨rfl, rfl⟩)
      refine ⟨⟨k + 1, crcPut 8 r1 x, by omega, by go_num, rfl, hp, Lib.hid Hg.out.symm, trivial⟩, by simp [intOf]; omega⟩
    · have : k = bs.length := by omega
      subst this
      have e2 := crcNot hr1
      have e3 : crcMore s bs = 4294967295 ^^^ r1 := by
        unfold crcMore
        rw [he.out, List.take_length, hs0]
      clear he
      go_wp2
      go_ret
      exact ⟨by rw [e3]; rfl, rfl⟩

set_option maxRecDepth 100000 in
set_option maxHeartbeats 4000000 in
theorem rmore_any (s : Nat) (bs : List Nat) (A : Option Addr) (c : Nat) (w : World) (hs : s < 4294967296) (h1 : Sl w w.heap.size A (bs.map byteV)) (h8 : Bytes8 bs) (n1 : bs.length ≤ 1000000000) :
    Calls Try.prog 35 #[.int .u32 (s : Int), .slice A bs.length c] w fun e w' => e = .returned (.int .u32 (crcMore s bs : Nat)) ∧ w' = w := by
  have hn := not_lt hs
  have en := crcNot hs
  obtain ⟨s0, hs0⟩ : ∃ z, z = 4294967295 ^^^ s := ⟨_, rfl⟩
  rw [← hs0] at en hn
  go_enter Try.func35, Try.ntmps35
  go_wp2
  go_loopw [5, 6] (fun rv i wr => ∃ k r1 : Nat, k ≤ bs.length ∧ i = .int .i64 k ∧ rv = .int .u32 (r1 : Int) ∧ r1 < 4294967296 ∧ Hid (r1 = crcReg s0 (bs.take k)) ∧ wr = w) (fun _ i _ => bs.length - (intOf i).toNat)
  case atStart => exact ⟨0, s0, by omega, rfl, by rw [hs0], hn, Lib.hid rfl, rfl⟩
  case round =>
    obtain ⟨k, r1, hk, rfl, rfl, hr1, he, rfl⟩ := hrel
    by_cases hlt : k < bs.length
    · obtain ⟨b1, o1, rfl, l1, q1⟩ := h1.at_ (by simpa using (by omega : 0 < bs.length))
      have hx := h8.at_ k
      have hg := crcReg_next bs s0 k hlt
      obtain ⟨x, hxe⟩ : ∃ x, bs.getD k 0 = x := ⟨_, rfl⟩
      have ck : wr.cell? ⟨b1, o1 + k, none⟩ = some (.int .u8 (x : Int)) := q1 k _ (by rw [← hxe]; simp [hlt, byteV])
      rw [hxe] at hx hg
      rw [← he.out] at hg
      have Hg := Lib.hid hg
      clear hg hxe q1 he
      have hp := crcPut_lt (k := 8) (x := x) hr1
      have i1 : (0 : Int) ≤ (k : Int) := by omega
      have i2 : (k : Int) < (bs.length : Int) := by omega
      go_wp2
      go_loopw [5, 7, 8] (fun rv xv i w2 => ∃ j r2 x2 : Nat, j ≤ 8 ∧ i = .int .i64 j ∧ rv = .int .u32 (r2 : Int) ∧ xv = .int .u32 (x2 : Int) ∧ r2 < 4294967296 ∧ x2 < 256 ∧ crcPut (8 - j) r2 x2 = crcPut 8 r1 x ∧ w2 = wr) (fun _ _ i _ => 8 - (intOf i).toNat)
      case atStart => exact ⟨0, r1, x, by omega, rfl, rfl, by simp, hr1, hx, rfl, rfl⟩
      case round =>
        obtain ⟨j, r2, x2, hj, rfl, rfl, rfl, hr2, hx2, he, rfl⟩ := hrel
        have hs2 := crcStep_lt (x := x2) hr2
        by_cases hlt2 : j < 8
        · have hb := crcBit hr2 (x := x2) (by omega)
          by_cases ht : (r2 ^^^ x2) &&& 1 = 1
          · rw [decide_eq_true ht] at hb
            have Hgo := Lib.hid (crcPut_go hlt2 he)
            have Hon := Lib.hid (crcStep_on ht)
            clear he ht
            go_wp2
            refine ⟨⟨j + 1, crcStep r2 x2, x2 / 2, by omega, by go_num, ?_, by simp, hs2, by omega, Hgo.out, trivial⟩, by simp [intOf]; omega⟩
            rw [crcTurn hr2, Hon.out]
          · rw [decide_eq_false ht] at hb
            have Hgo := Lib.hid (crcPut_go hlt2 he)
            have Hon := Lib.hid (crcStep_off ht)
            clear he ht
            go_wp2
            refine ⟨⟨j + 1, crcStep r2 x2, x2 / 2, by omega, by go_num, ?_, by simp, hs2, by omega, Hgo.out, trivial⟩, by simp [intOf]; omega⟩
            rw [Hon.out]
            simp
        · have : j = 8 := by omega
          subst this
          have he' : r2 = crcPut 8 r1 x := he
          subst he'
          clear he
          go_wp2
          refine ⟨⟨k + 1, crcPut 8 r1 x, by omega, by go_num, rfl, hp, Lib.hid Hg.out.symm, trivial⟩, by simp [intOf]; omega⟩
    · have : k = bs.length := by omega
      subst this
      have e2 := crcNot hr1
      have e3 : crcMore s bs = 4294967295 ^^^ r1 := by
        unfold crcMore
        rw [he.out, List.take_length, hs0]
      clear he
      go_wp2
      go_ret
      exact ⟨by rw [e3]; rfl, rfl⟩

theorem crcOf_any (bs : List Nat) (A : Option Addr) (c : Nat) (w : World) (h1 : Sl w w.heap.size A (bs.map byteV)) (h8 : Bytes8 bs) (n1 : bs.length ≤ 1000000000) :
    Calls Try.prog 25 #[.slice A bs.length c] w fun e w' => e = .returned (.int .u32 (crcMore 0 bs : Nat)) ∧ w' = w := by
  go_enter Try.func25, Try.ntmps25
  go_wp2_with (go_at_call 34; refine (more_any 0 bs A c _ (by omega) h1 h8 n1).mono ?_; rintro e w' ⟨rfl, rfl⟩)
  go_ret
  exact ⟨rfl, rfl⟩

theorem rcrcOf_any (bs : List Nat) (A : Option Addr) (c : Nat) (w : World) (h1 : Sl w w.heap.size A (bs.map byteV)) (h8 : Bytes8 bs) (n1 : bs.length ≤ 1000000000) :
    Calls Try.prog 27 #[.slice A bs.length c] w fun e w' => e = .returned (.int .u32 (crcMore 0 bs : Nat)) ∧ w' = w := by
  go_enter Try.func27, Try.ntmps27
  go_wp2_with (go_at_call 35; refine (rmore_any 0 bs A c _ (by omega) h1 h8 n1).mono ?_; rintro e w' ⟨rfl, rfl⟩)
  go_ret
  exact ⟨rfl, rfl⟩
end Go.Proofs.Ytjmochkhdapmiaa
