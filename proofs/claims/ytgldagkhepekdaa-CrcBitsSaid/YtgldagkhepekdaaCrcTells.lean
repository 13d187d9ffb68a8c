/- CrcTells: the walk. -/
import Derived.Test.YtgldagkhepekdaaCrcMore
import Derived.Test.YtgldagkhepekdaaKeptB
import Derived.Lib.SlBytesConst
import Derived.Test.YtgldagkhepekdaaOpenS2
namespace Go.Proofs.Ytgldagkhepekdaa
open Go.ChangeShapes Go.WideShapes Go.ChangeAt Go.RowKit

def nine : List Nat := [49, 50, 51, 52, 53, 54, 55, 56, 57]
theorem nine_sum : crcMore 0 nine = 3421780262 := by decide +kernel
theorem none_sum : crcMore 0 [] = 0 := by decide +kernel
theorem nine8 : Bytes8 nine := by
  intro b hb
  simp [nine] at hb
  omega

theorem Sl.const_ (w : World) (t : TypeId) (vs : List Value) (r : Nat × Nat) : Sl (w.alloc (.cells vs.toArray t r)) (w.alloc (.cells vs.toArray t r)).heap.size (some ⟨w.heap.size, 0, none⟩) vs := by
  right
  refine ⟨w.heap.size, 0, rfl, by simp, fun k v hk => ?_⟩
  have := heap_alloc_new w (.cells vs.toArray t r)
  simp only [World.cell?, this]
  simpa using hk

set_option maxRecDepth 100000 in
set_option maxHeartbeats 4000000 in
theorem crcAwake_any (w : World) : Calls Try.prog 6 #[] w fun e w' => e = .returned (.bool true) ∧ Below w.heap.size w w' := by
  have s0 := Sl.const_ w 5 (nine.map byteV) (9, 10)
  have hb : Below w.heap.size w (w.alloc (.cells (nine.map byteV).toArray 5 (9, 10))) := (Below.refl _ _).alloc (Nat.le_refl _) _
  have hc := Lib.run_convert_bytes_const (P := Try.prog) w 22 5 #[.int .u8 49, .int .u8 50, .int .u8 51, .int .u8 52, .int .u8 53, .int .u8 54, .int .u8 55, .int .u8 56, .int .u8 57] 9 9 Try.underlying22 Try.underlying5
  have e1 := nine_sum
  have e2 := none_sum
  go_enter Try.func6, Try.ntmps6
  go_wp2_with (first
    | (go_at_call 8; refine (crcOf_any nine _ _ _ s0 nine8 (by decide)).mono ?_; rintro e w' ⟨rfl, rfl⟩)
    | (go_at_call 10; refine (more_any 0 [] none 0 _ (by omega) Sl.nil_ (fun b h => by cases h) (by simp)).mono ?_; rintro e w' ⟨rfl, rfl⟩))
  go_ret
  exact ⟨rfl, hb⟩

set_option maxRecDepth 100000 in
set_option maxHeartbeats 4000000 in
theorem crctells_walk (A : Option Addr) (n c : Nat) (bs : List Nat) (s : Nat) (w : World) (hs : SlA w A n c (bs.map byteV)) (h8 : Bytes8 bs) (hz : s < 4294967296) :
    Calls Try.prog 3 #[.slice A n c, .int .u32 (s : Int)] w fun e w' => e = .returned (.bool true) ∧ Below w.heap.size w w' := by
  obtain ⟨hn, h1, _, _, hA⟩ := hs
  obtain rfl : n = bs.length := by simpa using hn
  clear hn
  go_enter Try.func3, Try.ntmps3
  by_cases hl : bs.length ≤ 500
  · have hA' := Lib.hid hA
    clear hA
    go_wp2_with (first
      | (go_at_call 7; refine (lendB_any bs A c w h1 (by omega) hA'.out).mono ?_; rintro e w1 ⟨g, rfl, hg, hlent, hb1⟩)
      | (go_at_call 8; refine (crcOf_any bs _ _ _ hlent.sl h8 (by omega)).mono ?_; rintro e w' ⟨rfl, rfl⟩)
      | (go_at_call 9; refine (rcrcOf_any bs A c _ (h1.next hb1) h8 (by omega)).mono ?_; rintro e w' ⟨rfl, rfl⟩)
      | (go_at_call 10; refine (more_any s bs _ _ _ hz hlent.sl h8 (by omega)).mono ?_; rintro e w' ⟨rfl, rfl⟩)
      | (go_at_call 11; refine (rmore_any s bs A c _ hz (h1.next hb1) h8 (by omega)).mono ?_; rintro e w' ⟨rfl, rfl⟩)
      | (go_at_call 12; refine (keptB_any bs bs g A c _ hlent (h1.next hb1) (by omega) (by omega)).mono ?_; rintro e w2 ⟨rfl, hb2⟩)
      | (go_at_call 6; refine (crcAwake_any _).mono ?_; rintro e w3 ⟨rfl, hb3⟩))
    go_ret
    exact ⟨by simp, btr (btr hb1 hb1.size hb2) (Nat.le_trans hb1.size hb2.size) hb3⟩
  · go_wp2_with (go_at_call 6; refine (crcAwake_any _).mono ?_; rintro e w3 ⟨rfl, hb3⟩)
    go_ret
    exact ⟨rfl, hb3⟩
end Go.Proofs.Ytgldagkhepekdaa
