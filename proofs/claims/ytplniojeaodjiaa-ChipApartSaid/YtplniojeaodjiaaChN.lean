/- Erase of a chip. -/
import Derived.Test.YtplniojeaodjiaaChM
namespace Go.Proofs.Ytplniojeaodjiaa
open Go.ChangeShapes Go.WideShapes Go.ChangeAt Go.RowKit
set_option linter.unusedSimpArgs false
set_option linter.unusedVariables false

theorem cell15 {w : World} {m gx gb : Nat} {Af : Option Addr} {nf cf : Nat} {a b c d e : Int} {fs : List Flt} {s : ChS} (h : ChipW w m gx gb Af nf cf a b c d e fs s) : w.cell? ⟨m, 15, none⟩ = some (.int .u8 (s.fill : Nat)) := by
  obtain ⟨cx, cb, NX, NB, hX, hN, hcx, hB⟩ := h.blk
  exact hB.cell_ 15
theorem tick_fill (s : ChS) : s.tick.fill = s.fill := by unfold ChS.tick; split <;> rfl
theorem tick_bnd {s : ChS} {n : Int} (h : s.Bnd n) : s.tick.Bnd (n + 1) := by
  obtain ⟨o0, o1, c0, c1, k0, k1⟩ := h
  have hk : ∀ i, s.tick.K.getD i 0 = s.K.getD i 0 := fun i => by rw [tick_K]
  refine ⟨?_, ?_, ?_, ?_, fun i => by rw [hk]; exact k0 i, fun i => by rw [hk]; have := k1 i; omega⟩
  all_goals
    unfold ChS.tick
    split <;> dsimp only <;> omega
theorem wipe_255 (m gx gb : Nat) (Af : Option Addr) (nf cf : Nat) (a b c d e : Int) (fs : List Flt) (k SZ RW : Nat) (n : Int) (w : World) (s : ChS) (hC : ChipW w m gx gb Af nf cf a b c d e fs s) (hbn : s.Bnd n) (hn : n ≤ 1000000000) (hk : (k : Int) < a) (HRW : Hid ((RW : Int) = c + 16)) (hSZ : (SZ : Int) = b * (c + 16)) (hfit0 : k * SZ + SZ ≤ s.X.length) (z1 : SZ ≤ 640) (z2 : 160 ≤ SZ) : Calls Try.prog 59 #[.pointer (some ⟨m, 0, none⟩), .int .i64 (k : Int), .int .u8 255] w fun e' w' => (∃ v, e' = .returned v) ∧ ChipW w' m gx gb Af nf cf a b c d e fs (s.wipe b k SZ 255) ∧ Tch (chB m gx gb) w w' :=
  wipe_any m gx gb Af nf cf a b c d e fs k 255 SZ RW n w s hC hbn hn hk (by omega) HRW hSZ hfit0 z1 z2
theorem failed_tick (s : ChS) (a : Int) (fs : List Flt) (B : Int) : failedB a fs s.tick B = failedB a fs s B := by
  unfold failedB ChS.k
  rw [tick_K]
set_option maxRecDepth 100000 in
set_option maxHeartbeats 4000000 in
theorem erase_off (m gx gb : Nat) (Af : Option Addr) (nf cf : Nat) (a b c d e : Int) (fs : List Flt) (x : Int) (w : World) (s : ChS) (hC : ChipW w m gx gb Af nf cf a b c d e fs s) (ho : s.on = false) : Calls Try.prog 22 #[.pointer (some ⟨m, 0, none⟩), .int .i64 x] w fun e' w' => e' = .returned (.int .i64 9) ∧ w = w' := by
  have y10 := cell10 hC
  rw [ho] at y10
  clear hC ho
  go_enter Try.func22, Try.ntmps22
  go_wp2_with fail
  go_ret
  exact ⟨rfl, rfl⟩
set_option maxRecDepth 100000 in
set_option maxHeartbeats 4000000 in
theorem erase_arg (m gx gb : Nat) (Af : Option Addr) (nf cf : Nat) (a b c d e : Int) (fs : List Flt) (x : Int) (w : World) (s : ChS) (hC : ChipW w m gx gb Af nf cf a b c d e fs s) (ho : s.on = true) (hib : Hid (inB a x = false)) : Calls Try.prog 22 #[.pointer (some ⟨m, 0, none⟩), .int .i64 x] w fun e' w' => e' = .returned (.int .i64 2) ∧ w = w' := by
  have y10 := cell10 hC
  rw [ho] at y10
  clear ho
  go_enter Try.func22, Try.ntmps22
  go_wp2_with (go_at_call 58; ((with_reducible refine (hasBlock_b _ _ _ _ _ _ _ _ _ _ _ _ _ _ _ _ hC hib).mono ?_); rintro e' wN ⟨rfl, rfl⟩; skip))
  go_ret
  exact ⟨rfl, rfl⟩
set_option maxRecDepth 100000 in
set_option maxHeartbeats 4000000 in
theorem erase_fail (m gx gb : Nat) (Af : Option Addr) (nf cf : Nat) (a b c d e : Int) (fs : List Flt) (k : Nat) (n : Int) (w : World) (s : ChS) (hC : ChipW w m gx gb Af nf cf a b c d e fs s) (hbn : s.Bnd n) (hn : n ≤ 1000000000) (ho : s.on = true) (hk : (k : Int) < a) (hcu : Hid (s.cutB = false)) (hfl0 : failedB a fs s (k : Int) = true) : Calls Try.prog 22 #[.pointer (some ⟨m, 0, none⟩), .int .i64 (k : Int)] w fun e' w' => e' = .returned (.int .i64 10) ∧ ChipW w' m gx gb Af nf cf a b c d e fs s.tick ∧ Tch (chB m gx gb) w w' := by
  have hib : Hid (inB a (k : Int) = true) := Lib.hid (inB_yes (by omega) hk)
  obtain ⟨FI, hFI⟩ : ∃ z, s.tick.fill = z := ⟨_, rfl⟩
  have HFI := Lib.hid hFI
  have hfl : Hid (failedB a fs s.tick (k : Int) = true) := Lib.hid (by rw [failed_tick]; exact hfl0)
  have y10 := cell10 hC
  rw [ho] at y10
  clear ho hfl0
  clear hFI
  go_enter Try.func22, Try.ntmps22
  go_wp2_with (first
    | (go_at_call 58; ((with_reducible refine (hasBlock_b _ _ _ _ _ _ _ _ _ _ _ _ _ _ _ _ hC hib).mono ?_); rintro e' wN ⟨rfl, rfl⟩; skip))
    | (go_at_call 54; ((with_reducible refine (begin_b _ _ _ _ _ _ _ _ _ _ _ _ _ _ _ _ hC hbn hn hcu).mono ?_); rintro e' wN ⟨rfl, hC2, hT⟩; have HT := hT; replace hC := hC2; clear hC2 hT))
    | (go_at_call 29; ((with_reducible refine (failed_b _ _ _ _ _ _ _ _ _ _ _ _ _ _ _ _ hC hfl).mono ?_); rintro e' wN ⟨rfl, hb⟩; replace hC := hC.below hb; replace HT := HT.then hb; have y15 := cell15 hC; rw [HFI.out] at y15)))
  go_ret
  exact ⟨rfl, hC, HT⟩
set_option maxRecDepth 100000 in
set_option maxHeartbeats 4000000 in
theorem erase_cutfail (m gx gb : Nat) (Af : Option Addr) (nf cf : Nat) (a b c d e : Int) (fs : List Flt) (k : Nat) (n : Int) (w : World) (s : ChS) (hC : ChipW w m gx gb Af nf cf a b c d e fs s) (hbn : s.Bnd n) (hn : n ≤ 1000000000) (ho : s.on = true) (hk : (k : Int) < a) (hcu : Hid (s.cutB = true)) (hfl0 : failedB a fs s (k : Int) = true) : Calls Try.prog 22 #[.pointer (some ⟨m, 0, none⟩), .int .i64 (k : Int)] w fun e' w' => e' = .returned (.int .i64 9) ∧ ChipW w' m gx gb Af nf cf a b c d e fs s.tick ∧ Tch (chB m gx gb) w w' := by
  have hib : Hid (inB a (k : Int) = true) := Lib.hid (inB_yes (by omega) hk)
  obtain ⟨FI, hFI⟩ : ∃ z, s.tick.fill = z := ⟨_, rfl⟩
  have HFI := Lib.hid hFI
  have hfl : Hid (failedB a fs s.tick (k : Int) = true) := Lib.hid (by rw [failed_tick]; exact hfl0)
  have y10 := cell10 hC
  rw [ho] at y10
  clear ho hfl0
  clear hFI
  go_enter Try.func22, Try.ntmps22
  go_wp2_with (first
    | (go_at_call 58; ((with_reducible refine (hasBlock_b _ _ _ _ _ _ _ _ _ _ _ _ _ _ _ _ hC hib).mono ?_); rintro e' wN ⟨rfl, rfl⟩; skip))
    | (go_at_call 54; ((with_reducible refine (begin_b _ _ _ _ _ _ _ _ _ _ _ _ _ _ _ _ hC hbn hn hcu).mono ?_); rintro e' wN ⟨rfl, hC2, hT⟩; have HT := hT; replace hC := hC2; clear hC2 hT))
    | (go_at_call 29; ((with_reducible refine (failed_b _ _ _ _ _ _ _ _ _ _ _ _ _ _ _ _ hC hfl).mono ?_); rintro e' wN ⟨rfl, hb⟩; replace hC := hC.below hb; replace HT := HT.then hb; have y15 := cell15 hC; rw [HFI.out] at y15)))
  go_ret
  exact ⟨rfl, hC, HT⟩
set_option maxRecDepth 100000 in
set_option maxHeartbeats 4000000 in
theorem erase_ok (m gx gb : Nat) (Af : Option Addr) (nf cf : Nat) (a b c d e : Int) (fs : List Flt) (k SZ RW : Nat) (n : Int) (w : World) (s : ChS) (hC : ChipW w m gx gb Af nf cf a b c d e fs s) (hbn : s.Bnd n) (hn : n ≤ 1000000000) (hn1 : n ≤ 999999999) (ho : s.on = true) (hk : (k : Int) < a) (hcu : Hid (s.cutB = false)) (hfl0 : failedB a fs s (k : Int) = false) (HRW : Hid ((RW : Int) = c + 16)) (hSZ : (SZ : Int) = b * (c + 16)) (hfit0 : k * SZ + SZ ≤ s.X.length) (z1 : SZ ≤ 640) (z2 : 160 ≤ SZ) : Calls Try.prog 22 #[.pointer (some ⟨m, 0, none⟩), .int .i64 (k : Int)] w fun e' w' => e' = .returned (.int .i64 0) ∧ ChipW w' m gx gb Af nf cf a b c d e fs (s.tick.wipe b k SZ 255) ∧ Tch (chB m gx gb) w w' := by
  have hib : Hid (inB a (k : Int) = true) := Lib.hid (inB_yes (by omega) hk)
  obtain ⟨FI, hFI⟩ : ∃ z, s.tick.fill = z := ⟨_, rfl⟩
  have HFI := Lib.hid hFI
  have hfl : Hid (failedB a fs s.tick (k : Int) = false) := Lib.hid (by rw [failed_tick]; exact hfl0)
  have y10 := cell10 hC
  rw [ho] at y10
  clear ho hfl0
  have hbt := tick_bnd hbn
  have hn2 : n + 1 ≤ 1000000000 := by omega
  have hfit : k * SZ + SZ ≤ s.tick.X.length := by rw [tick_X]; exact hfit0
  clear hfit0
  clear hFI
  go_enter Try.func22, Try.ntmps22
  go_wp2_with (first
    | (go_at_call 58; ((with_reducible refine (hasBlock_b _ _ _ _ _ _ _ _ _ _ _ _ _ _ _ _ hC hib).mono ?_); rintro e' wN ⟨rfl, rfl⟩; skip))
    | (go_at_call 54; ((with_reducible refine (begin_b _ _ _ _ _ _ _ _ _ _ _ _ _ _ _ _ hC hbn hn hcu).mono ?_); rintro e' wN ⟨rfl, hC2, hT⟩; have HT := hT; replace hC := hC2; clear hC2 hT))
    | (go_at_call 29; ((with_reducible refine (failed_b _ _ _ _ _ _ _ _ _ _ _ _ _ _ _ _ hC hfl).mono ?_); rintro e' wN ⟨rfl, hb⟩; replace hC := hC.below hb; replace HT := HT.then hb; have y15 := cell15 hC; rw [HFI.out] at y15))
    | (go_at_call 59; ((with_reducible refine (wipe_255 _ _ _ _ _ _ _ _ _ _ _ _ k SZ RW _ _ _ hC hbt hn2 hk HRW hSZ hfit z1 z2).mono ?_); rintro e' wN ⟨⟨v9, rfl⟩, hC2, hT2⟩; replace HT := HT.trans hT2; replace hC := hC2; clear hC2 hT2)))
  go_ret
  exact ⟨rfl, hC, HT⟩
set_option maxRecDepth 100000 in
set_option maxHeartbeats 4000000 in
theorem erase_cut (m gx gb : Nat) (Af : Option Addr) (nf cf : Nat) (a b c d e : Int) (fs : List Flt) (k SZ RW : Nat) (n : Int) (w : World) (s : ChS) (hC : ChipW w m gx gb Af nf cf a b c d e fs s) (hbn : s.Bnd n) (hn : n ≤ 1000000000) (hn1 : n ≤ 999999999) (ho : s.on = true) (hk : (k : Int) < a) (hcu : Hid (s.cutB = true)) (hfl0 : failedB a fs s (k : Int) = false) (hf0 : s.fill < 256) (HRW : Hid ((RW : Int) = c + 16)) (hSZ : (SZ : Int) = b * (c + 16)) (hfit0 : k * SZ + SZ ≤ s.X.length) (z1 : SZ ≤ 640) (z2 : 160 ≤ SZ) : Calls Try.prog 22 #[.pointer (some ⟨m, 0, none⟩), .int .i64 (k : Int)] w fun e' w' => e' = .returned (.int .i64 9) ∧ ChipW w' m gx gb Af nf cf a b c d e fs (s.tick.wipe b k SZ s.fill) ∧ Tch (chB m gx gb) w w' := by
  have hib : Hid (inB a (k : Int) = true) := Lib.hid (inB_yes (by omega) hk)
  obtain ⟨FI, hFI⟩ : ∃ z, s.tick.fill = z := ⟨_, rfl⟩
  have HFI := Lib.hid hFI
  have hfl : Hid (failedB a fs s.tick (k : Int) = false) := Lib.hid (by rw [failed_tick]; exact hfl0)
  have y10 := cell10 hC
  rw [ho] at y10
  clear ho hfl0
  have hbt := tick_bnd hbn
  have hn2 : n + 1 ≤ 1000000000 := by omega
  have hfit : k * SZ + SZ ≤ s.tick.X.length := by rw [tick_X]; exact hfit0
  clear hfit0
  have hfs : FI = s.fill := by rw [← hFI, tick_fill]
  have hff : FI < 256 := by rw [hfs]; exact hf0
  rw [← hfs]
  clear hFI hfs hf0
  go_enter Try.func22, Try.ntmps22
  go_wp2_with (first
    | (go_at_call 58; ((with_reducible refine (hasBlock_b _ _ _ _ _ _ _ _ _ _ _ _ _ _ _ _ hC hib).mono ?_); rintro e' wN ⟨rfl, rfl⟩; skip))
    | (go_at_call 54; ((with_reducible refine (begin_b _ _ _ _ _ _ _ _ _ _ _ _ _ _ _ _ hC hbn hn hcu).mono ?_); rintro e' wN ⟨rfl, hC2, hT⟩; have HT := hT; replace hC := hC2; clear hC2 hT))
    | (go_at_call 29; ((with_reducible refine (failed_b _ _ _ _ _ _ _ _ _ _ _ _ _ _ _ _ hC hfl).mono ?_); rintro e' wN ⟨rfl, hb⟩; replace hC := hC.below hb; replace HT := HT.then hb; have y15 := cell15 hC; rw [HFI.out] at y15))
    | (go_at_call 59; ((with_reducible refine (wipe_any _ _ _ _ _ _ _ _ _ _ _ _ k FI SZ RW _ _ _ hC hbt hn2 hk hff HRW hSZ hfit z1 z2).mono ?_); rintro e' wN ⟨⟨v9, rfl⟩, hC2, hT2⟩; replace HT := HT.trans hT2; replace hC := hC2; clear hC2 hT2)))
  go_ret
  exact ⟨rfl, hC, HT⟩
end Go.Proofs.Ytplniojeaodjiaa
