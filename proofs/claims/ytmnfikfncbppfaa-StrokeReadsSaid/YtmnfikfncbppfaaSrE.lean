/- stroke.Read. -/
import Derived.Test.YtmnfikfncbppfaaSrD
import Derived.Deep.RegionHeld3
import Derived.Deep.DrawnRows
import Derived.Deep.DeepCutAuto
namespace Go.Proofs.Ytmnfikfncbppfaa
open Go.ChangeShapes Go.WideShapes Go.ChangeAt Go.RowKit
set_option linter.unusedSimpArgs false
set_option linter.unusedVariables false

attribute [local go_sem ↓] Go.wp_at_zero Go.wp_at_succ
def J2 (w0 : World) (R : Option (List St × List Nat)) (n : Nat) (a : Act) (wr : World) : Prop := ∃ (b : List Nat) (A : Option Addr) (nb c left : Nat) (v : Value) (es : List (St × Value)) (x0 x1 x2 : Value) (lz : Int) (u : Nat → Value),
  a = { tmps := #[.slice A nb c, u 1, u 2, u 3, v, .pointer (some ⟨w0.heap.size, 0, none⟩), .int .i64 lz, u 7, u 8, u 9, u 10, u 11, u 12, u 13, u 14, u 15, u 16, u 17, u 18, u 19, u 20, u 21, u 22, u 23, u 24, u 25, u 26, u 27, u 28, u 29, u 30, u 31, u 32, u 33, u 34, u 35, u 36, u 37, u 38, u 39, u 40, u 41, u 42, u 43, u 44, u 45, u 46, u 47, u 48, u 49, u 50, u 51, u 52, u 53, u 54, u 55, u 56, u 57, u 58, u 59, u 60, u 61, u 62, u 63, u 64, u 65, u 66, u 67, u 68, u 69, u 70, u 71, u 72, u 73, u 74], defers := [] } ∧ Below w0.heap.size w0 wr ∧ w0.heap.size < wr.heap.size ∧ Sl wr w0.heap.size A (b.map byteV) ∧ Bytes8 b ∧ Hid (b.length = nb) ∧ nb ≤ c ∧ c ≤ maxLen ∧ nb ≤ 1000 ∧ RowS wr (w0.heap.size + 1) v es ∧ Hid (∀ e ∈ es, e.1.2.length ≤ 255) ∧ Blk wr w0.heap.size 44 #[x0, x1, x2] ∧ Hid (lz = (left : Int)) ∧ es.length + left ≤ 255 ∧ Hid (rdS left b (es.map Prod.fst) = R) ∧ 3 * nb + 2 ≤ n
def J3 (w0 : World) (R : Option (List St × List Nat)) (n : Nat) (a : Act) (wr : World) : Prop := ∃ (b : List Nat) (A : Option Addr) (nb c left k h : Nat) (v q : Value) (es : List (St × Value)) (ps : List Pt) (lz kz px qx : Int) (u : Nat → Value),
  a = { tmps := #[.slice A nb c, u 1, u 2, u 3, v, .pointer (some ⟨w0.heap.size, 0, none⟩), .int .i64 lz, .int .i64 kz, u 8, u 9, u 10, u 11, u 12, u 13, u 14, u 15, u 16, u 17, u 18, u 19, u 20, u 21, u 22, u 23, u 24, u 25, u 26, u 27, u 28, u 29, u 30, u 31, u 32, u 33, u 34, u 35, u 36, u 37, u 38, u 39, u 40, u 41, u 42, u 43, u 44, u 45, u 46, u 47, u 48, u 49, u 50, u 51, u 52, u 53, u 54, u 55, u 56, u 57, u 58, u 59, u 60, u 61, u 62, u 63, u 64, u 65, u 66, u 67, u 68, u 69, u 70, u 71, u 72, u 73, u 74], defers := [] } ∧ Below w0.heap.size w0 wr ∧ w0.heap.size < wr.heap.size ∧ Sl wr w0.heap.size A (b.map byteV) ∧ Bytes8 b ∧ Hid (b.length = nb) ∧ nb ≤ c ∧ c ≤ maxLen ∧ nb ≤ 1000 ∧ RowS wr (w0.heap.size + 1) v es ∧ Hid (∀ e ∈ es, e.1.2.length ≤ 255) ∧ Blk wr w0.heap.size 44 #[.int .i64 px, .int .i64 qx, q] ∧ Hid (lz = (left : Int) ∧ kz = (k : Int) ∧ px = ((h / 16 : Nat) : Int) ∧ qx = ((h % 16 : Nat) : Int)) ∧ RowP wr (w0.heap.size + 1) q ps ∧ Ap q v ∧ (∀ e ∈ es, Ap e.2 q) ∧ ps.length + k ≤ 255 ∧ es.length + 1 + left ≤ 255 ∧ Hid (((rdP k b ps).bind fun r => rdS left r.2 (es.map Prod.fst ++ [(h, r.1)])) = R) ∧ 3 * nb + 3 ≤ n
def J1 (w0 : World) (R : Option (List St × List Nat)) (n : Nat) (a : Act) (wr : World) : Prop := ∃ (b : List Nat) (A : Option Addr) (nb c : Nat) (v : Value) (es : List (St × Value)) (u : Nat → Value),
  a = { tmps := #[.slice A nb c, u 1, u 2, u 3, v, .pointer (some ⟨w0.heap.size, 0, none⟩), u 6, u 7, u 8, u 9, u 10, u 11, u 12, u 13, u 14, u 15, u 16, u 17, u 18, u 19, u 20, u 21, u 22, u 23, u 24, u 25, u 26, u 27, u 28, u 29, u 30, u 31, u 32, u 33, u 34, u 35, u 36, u 37, u 38, u 39, u 40, u 41, u 42, u 43, u 44, u 45, u 46, u 47, u 48, u 49, u 50, u 51, u 52, u 53, u 54, u 55, u 56, u 57, u 58, u 59, u 60, u 61, u 62, u 63, u 64, u 65, u 66, u 67, u 68, u 69, u 70, u 71, u 72, u 73, u 74], defers := [] } ∧ Below w0.heap.size w0 wr ∧ w0.heap.size < wr.heap.size ∧ Sl wr w0.heap.size A (b.map byteV) ∧ Bytes8 b ∧ Hid (b.length = nb) ∧ nb ≤ c ∧ c ≤ maxLen ∧ nb ≤ 1000 ∧ RowS wr (w0.heap.size + 1) v es ∧ Hid (∀ e ∈ es, e.1.2.length ≤ 255) ∧ es.length ≤ 255 ∧ Hid (some (es.map Prod.fst, b) = R) ∧ 1 ≤ n
def J0 (w0 : World) (R : Option (List St × List Nat)) (a : Act) (wr : World) : Prop := ∃ (u : Nat → Value),
  a = { tmps := #[u 0, u 1, u 2, u 3, u 4, u 5, u 6, u 7, u 8, u 9, u 10, u 11, u 12, u 13, u 14, u 15, u 16, u 17, u 18, u 19, u 20, u 21, u 22, u 23, u 24, u 25, u 26, u 27, u 28, u 29, u 30, u 31, u 32, u 33, u 34, u 35, u 36, u 37, u 38, u 39, u 40, u 41, u 42, u 43, u 44, u 45, u 46, u 47, u 48, u 49, u 50, u 51, u 52, u 53, u 54, u 55, u 56, u 57, u 58, u 59, u 60, u 61, u 62, u 63, u 64, u 65, u 66, u 67, u 68, u 69, u 70, u 71, u 72, u 73, u 74], defers := [] } ∧ Below w0.heap.size w0 wr ∧ Hid (fin R = none)
theorem J2.mk {w0 : World} {R : Option (List St × List Nat)} {n : Nat} {wr : World} {b : List Nat} {A : Option Addr} {nb c left : Nat} {v : Value} {es : List (St × Value)} {x0 x1 x2 : Value} {lz : Int} {u1 u2 u3 u7 u8 u9 u10 u11 u12 u13 u14 u15 u16 u17 u18 u19 u20 u21 u22 u23 u24 u25 u26 u27 u28 u29 u30 u31 u32 u33 u34 u35 u36 u37 u38 u39 u40 u41 u42 u43 u44 u45 u46 u47 u48 u49 u50 u51 u52 u53 u54 u55 u56 u57 u58 u59 u60 u61 u62 u63 u64 u65 u66 u67 u68 u69 u70 u71 u72 u73 u74 : Value}
  (h : Below w0.heap.size w0 wr ∧ w0.heap.size < wr.heap.size ∧ Sl wr w0.heap.size A (b.map byteV) ∧ Bytes8 b ∧ Hid (b.length = nb) ∧ nb ≤ c ∧ c ≤ maxLen ∧ nb ≤ 1000 ∧ RowS wr (w0.heap.size + 1) v es ∧ Hid (∀ e ∈ es, e.1.2.length ≤ 255) ∧ Blk wr w0.heap.size 44 #[x0, x1, x2] ∧ Hid (lz = (left : Int)) ∧ es.length + left ≤ 255 ∧ Hid (rdS left b (es.map Prod.fst) = R) ∧ 3 * nb + 2 ≤ n) : J2 w0 R n { tmps := #[.slice A nb c, u1, u2, u3, v, .pointer (some ⟨w0.heap.size, 0, none⟩), .int .i64 lz, u7, u8, u9, u10, u11, u12, u13, u14, u15, u16, u17, u18, u19, u20, u21, u22, u23, u24, u25, u26, u27, u28, u29, u30, u31, u32, u33, u34, u35, u36, u37, u38, u39, u40, u41, u42, u43, u44, u45, u46, u47, u48, u49, u50, u51, u52, u53, u54, u55, u56, u57, u58, u59, u60, u61, u62, u63, u64, u65, u66, u67, u68, u69, u70, u71, u72, u73, u74], defers := [] } wr :=
  ⟨b, A, nb, c, left, v, es, x0, x1, x2, lz, fun i => (#[undef, u1, u2, u3, undef, undef, undef, u7, u8, u9, u10, u11, u12, u13, u14, u15, u16, u17, u18, u19, u20, u21, u22, u23, u24, u25, u26, u27, u28, u29, u30, u31, u32, u33, u34, u35, u36, u37, u38, u39, u40, u41, u42, u43, u44, u45, u46, u47, u48, u49, u50, u51, u52, u53, u54, u55, u56, u57, u58, u59, u60, u61, u62, u63, u64, u65, u66, u67, u68, u69, u70, u71, u72, u73, u74] : Array Value).getD i undef, rfl, h⟩
theorem J3.mk {w0 : World} {R : Option (List St × List Nat)} {n : Nat} {wr : World} {b : List Nat} {A : Option Addr} {nb c left k h : Nat} {v q : Value} {es : List (St × Value)} {ps : List Pt} {lz kz px qx : Int} {u1 u2 u3 u8 u9 u10 u11 u12 u13 u14 u15 u16 u17 u18 u19 u20 u21 u22 u23 u24 u25 u26 u27 u28 u29 u30 u31 u32 u33 u34 u35 u36 u37 u38 u39 u40 u41 u42 u43 u44 u45 u46 u47 u48 u49 u50 u51 u52 u53 u54 u55 u56 u57 u58 u59 u60 u61 u62 u63 u64 u65 u66 u67 u68 u69 u70 u71 u72 u73 u74 : Value}
  (hh : Below w0.heap.size w0 wr ∧ w0.heap.size < wr.heap.size ∧ Sl wr w0.heap.size A (b.map byteV) ∧ Bytes8 b ∧ Hid (b.length = nb) ∧ nb ≤ c ∧ c ≤ maxLen ∧ nb ≤ 1000 ∧ RowS wr (w0.heap.size + 1) v es ∧ Hid (∀ e ∈ es, e.1.2.length ≤ 255) ∧ Blk wr w0.heap.size 44 #[.int .i64 px, .int .i64 qx, q] ∧ Hid (lz = (left : Int) ∧ kz = (k : Int) ∧ px = ((h / 16 : Nat) : Int) ∧ qx = ((h % 16 : Nat) : Int)) ∧ RowP wr (w0.heap.size + 1) q ps ∧ Ap q v ∧ (∀ e ∈ es, Ap e.2 q) ∧ ps.length + k ≤ 255 ∧ es.length + 1 + left ≤ 255 ∧ Hid (((rdP k b ps).bind fun r => rdS left r.2 (es.map Prod.fst ++ [(h, r.1)])) = R) ∧ 3 * nb + 3 ≤ n) : J3 w0 R n { tmps := #[.slice A nb c, u1, u2, u3, v, .pointer (some ⟨w0.heap.size, 0, none⟩), .int .i64 lz, .int .i64 kz, u8, u9, u10, u11, u12, u13, u14, u15, u16, u17, u18, u19, u20, u21, u22, u23, u24, u25, u26, u27, u28, u29, u30, u31, u32, u33, u34, u35, u36, u37, u38, u39, u40, u41, u42, u43, u44, u45, u46, u47, u48, u49, u50, u51, u52, u53, u54, u55, u56, u57, u58, u59, u60, u61, u62, u63, u64, u65, u66, u67, u68, u69, u70, u71, u72, u73, u74], defers := [] } wr :=
  ⟨b, A, nb, c, left, k, h, v, q, es, ps, lz, kz, px, qx, fun i => (#[undef, u1, u2, u3, undef, undef, undef, undef, u8, u9, u10, u11, u12, u13, u14, u15, u16, u17, u18, u19, u20, u21, u22, u23, u24, u25, u26, u27, u28, u29, u30, u31, u32, u33, u34, u35, u36, u37, u38, u39, u40, u41, u42, u43, u44, u45, u46, u47, u48, u49, u50, u51, u52, u53, u54, u55, u56, u57, u58, u59, u60, u61, u62, u63, u64, u65, u66, u67, u68, u69, u70, u71, u72, u73, u74] : Array Value).getD i undef, rfl, hh⟩
theorem J1.mk {w0 : World} {R : Option (List St × List Nat)} {n : Nat} {wr : World} {b : List Nat} {A : Option Addr} {nb c : Nat} {v : Value} {es : List (St × Value)} {u1 u2 u3 u6 u7 u8 u9 u10 u11 u12 u13 u14 u15 u16 u17 u18 u19 u20 u21 u22 u23 u24 u25 u26 u27 u28 u29 u30 u31 u32 u33 u34 u35 u36 u37 u38 u39 u40 u41 u42 u43 u44 u45 u46 u47 u48 u49 u50 u51 u52 u53 u54 u55 u56 u57 u58 u59 u60 u61 u62 u63 u64 u65 u66 u67 u68 u69 u70 u71 u72 u73 u74 : Value}
  (h : Below w0.heap.size w0 wr ∧ w0.heap.size < wr.heap.size ∧ Sl wr w0.heap.size A (b.map byteV) ∧ Bytes8 b ∧ Hid (b.length = nb) ∧ nb ≤ c ∧ c ≤ maxLen ∧ nb ≤ 1000 ∧ RowS wr (w0.heap.size + 1) v es ∧ Hid (∀ e ∈ es, e.1.2.length ≤ 255) ∧ es.length ≤ 255 ∧ Hid (some (es.map Prod.fst, b) = R) ∧ 1 ≤ n) : J1 w0 R n { tmps := #[.slice A nb c, u1, u2, u3, v, .pointer (some ⟨w0.heap.size, 0, none⟩), u6, u7, u8, u9, u10, u11, u12, u13, u14, u15, u16, u17, u18, u19, u20, u21, u22, u23, u24, u25, u26, u27, u28, u29, u30, u31, u32, u33, u34, u35, u36, u37, u38, u39, u40, u41, u42, u43, u44, u45, u46, u47, u48, u49, u50, u51, u52, u53, u54, u55, u56, u57, u58, u59, u60, u61, u62, u63, u64, u65, u66, u67, u68, u69, u70, u71, u72, u73, u74], defers := [] } wr :=
  ⟨b, A, nb, c, v, es, fun i => (#[undef, u1, u2, u3, undef, undef, u6, u7, u8, u9, u10, u11, u12, u13, u14, u15, u16, u17, u18, u19, u20, u21, u22, u23, u24, u25, u26, u27, u28, u29, u30, u31, u32, u33, u34, u35, u36, u37, u38, u39, u40, u41, u42, u43, u44, u45, u46, u47, u48, u49, u50, u51, u52, u53, u54, u55, u56, u57, u58, u59, u60, u61, u62, u63, u64, u65, u66, u67, u68, u69, u70, u71, u72, u73, u74] : Array Value).getD i undef, rfl, h⟩
theorem J0.mk {w0 : World} {R : Option (List St × List Nat)} {wr : World} {u0 u1 u2 u3 u4 u5 u6 u7 u8 u9 u10 u11 u12 u13 u14 u15 u16 u17 u18 u19 u20 u21 u22 u23 u24 u25 u26 u27 u28 u29 u30 u31 u32 u33 u34 u35 u36 u37 u38 u39 u40 u41 u42 u43 u44 u45 u46 u47 u48 u49 u50 u51 u52 u53 u54 u55 u56 u57 u58 u59 u60 u61 u62 u63 u64 u65 u66 u67 u68 u69 u70 u71 u72 u73 u74 : Value} (h : Below w0.heap.size w0 wr ∧ Hid (fin R = none)) : J0 w0 R { tmps := #[u0, u1, u2, u3, u4, u5, u6, u7, u8, u9, u10, u11, u12, u13, u14, u15, u16, u17, u18, u19, u20, u21, u22, u23, u24, u25, u26, u27, u28, u29, u30, u31, u32, u33, u34, u35, u36, u37, u38, u39, u40, u41, u42, u43, u44, u45, u46, u47, u48, u49, u50, u51, u52, u53, u54, u55, u56, u57, u58, u59, u60, u61, u62, u63, u64, u65, u66, u67, u68, u69, u70, u71, u72, u73, u74], defers := [] } wr :=
  ⟨fun i => (#[u0, u1, u2, u3, u4, u5, u6, u7, u8, u9, u10, u11, u12, u13, u14, u15, u16, u17, u18, u19, u20, u21, u22, u23, u24, u25, u26, u27, u28, u29, u30, u31, u32, u33, u34, u35, u36, u37, u38, u39, u40, u41, u42, u43, u44, u45, u46, u47, u48, u49, u50, u51, u52, u53, u54, u55, u56, u57, u58, u59, u60, u61, u62, u63, u64, u65, u66, u67, u68, u69, u70, u71, u72, u73, u74] : Array Value).getD i undef, rfl, h⟩
def JJ (w0 : World) (R : Option (List St × List Nat)) (l n : Nat) (a : Act) (wr : World) : Prop :=
  (l = 2 ∧ J2 w0 R n a wr) ∨ (l = 3 ∧ J3 w0 R n a wr) ∨ (l = 1 ∧ J1 w0 R n a wr) ∨ (l = 0 ∧ J0 w0 R a wr)
def Got (w0 : World) (b : List Nat) (e' : Ending) (w' : World) : Prop :=
  (∃ v es, rd b = some (es.map Prod.fst) ∧ RowS w' w0.heap.size v es ∧ e' = .returned (.tuple #[v, .int .i64 0])) ∨ (rd b = none ∧ e' = .returned (.tuple #[.slice none 0 0, .int .i64 5]))
def R0 : List Nat → Option (List St × List Nat)
  | [] => none
  | x :: b => rdS x b []
theorem jumpsQ_ret {J : Nat → Act → World → Prop} {Q : Exit → Act → World → Prop} {a : Act} {w : World} (h : Q .ret a w) : jumpsQ J Q .ret a w := h
theorem own_base {w : World} {B B' size n : Nat} {e : TypeId} {v : Value} {xs : List Value} (h : w.ownsRow B e size v n xs) (hB : B' ≤ B) : w.ownsRow B' e size v n xs := by
  refine ⟨h.1, ?_⟩
  rcases h.2 with h2 | ⟨g, cap, cur, hv, hb, h⟩
  · exact Or.inl h2
  · exact Or.inr ⟨g, cap, cur, hv, by omega, h⟩
theorem RowS.base {w : World} {B B' : Nat} {v : Value} {es : List (St × Value)} (h : RowS w B v es) (hB : B' ≤ B) : RowS w B' v es := ⟨own_base h.row hB, fun e he => own_base (h.pts e he) hB, h.ap⟩
theorem and_15 (x : Nat) (h : x < 256) : IntKind.i64.wrap (bits .and .u8 (x : Int) 15) = ((x % 16 : Nat) : Int) := by
  have e : bits .and .u8 (x : Int) 15 = ((x % 16 : Nat) : Int) := by
    show IntKind.u8.wrap ((BitVec.ofInt 8 (x : Int) &&& BitVec.ofInt 8 15).toNat : Int) = _
    rw [BitVec.toNat_and, BitVec.ofInt_natCast, BitVec.toNat_ofNat, Nat.mod_eq_of_lt (by omega)]
    have h2 : (BitVec.ofInt 8 15).toNat = 2 ^ 4 - 1 := by decide
    rw [h2, Nat.and_two_pow_sub_one_eq_mod]
    exact IntWalk.u8_in _ (by omega)
  rw [e]
  exact IntWalk.i64_in _ (by omega)
theorem shr_4 (x : Nat) (h : x < 256) : IntKind.i64.wrap ((x : Int) / 16) = ((x / 16 : Nat) : Int) := by
  rw [IntWalk.i64_in _ (by omega)]
  omega
theorem st3_facts {wr : World} {g : Nat} {x0 x1 x2 v : Value} {es : List (St × Value)} (px qx : Int) (hX : Blk wr g 44 #[x0, x1, x2]) (hS : RowS wr (g + 1) v es) :
    ∃ wq, wq = (((wr.setCell ⟨g, 0, none⟩ (.int .i64 px)).setCell ⟨g, 1, none⟩ (.int .i64 qx)).setCell ⟨g, 2, none⟩ (.slice none 0 0)).drew ∧ Below g wr wq ∧ Blk wq g 44 #[.int .i64 px, .int .i64 qx, .slice none 0 0] ∧ RowS wq (g + 1) v es := by
  refine ⟨_, rfl, ((((Below.refl g wr).setCell (p := ⟨g, 0, none⟩) (Nat.le_refl _) _).setCell (p := ⟨g, 1, none⟩) (Nat.le_refl _) _).setCell (p := ⟨g, 2, none⟩) (Nat.le_refl _) _).drew, ?_, ?_⟩
  · have := ((hX.set_ 0 (.int .i64 px)).set_ 1 (.int .i64 qx)).set_ 2 (.slice none 0 0)
    exact this
  · exact (((hS.set_ (p := ⟨g, 0, none⟩) (Nat.lt_succ_self g) _).set_ (p := ⟨g, 1, none⟩) (Nat.lt_succ_self g) _).set_ (p := ⟨g, 2, none⟩) (Nat.lt_succ_self g) _).below (Below.refl _ _).drew
theorem rdS_step (kk L h : Nat) (bs : List Nat) (ss : List St) : ((rdP kk bs []).bind fun r => rdS L r.2 (ss ++ [(h, r.1)])) = rdS (L + 1) (h :: kk :: bs) ss := rfl
theorem infoSt : (Try.prog.info? 44).map (fun i => (i.zero, i.size, i.bytes)) = some (some (.agg #[.int .i64 0, .int .i64 0, .slice none 0 0]), 3, 40) := by kernel_rfl
@[go_sem] theorem build_st (p q : Int) (A : Option Addr) (m c : Nat) (w : World) : (Instr.buildSlice 26 1 #[(0, (.agg #[.int .i64 p, .int .i64 q, .slice A m c]))]).run Try.prog w = .ok (.slice (some ⟨w.heap.size, 0, none⟩) 1 1) (w.alloc (.cells #[.int .i64 p, .int .i64 q, .slice A m c] 44)) := by kernel_rfl
theorem rd_newS (w : World) (p q : Int) (A : Option Addr) (m c : Nat) {g : Nat} (hg : g = w.heap.size) : Rd (w.alloc (.cells #[.int .i64 p, .int .i64 q, .slice A m c] 44)) (some ⟨g, 0, none⟩) 1 3 [.int .i64 p, .int .i64 q, .slice A m c] := by
  subst hg
  refine ⟨rfl, Or.inr ⟨_, 0, rfl, fun j u hj => ?_⟩⟩
  rw [Joins.cell_of_block (heap_alloc_new w _), Nat.zero_add]
  simpa using hj
theorem rowS_n {w : World} {base : Nat} {v : Value} {es : List (St × Value)} (h : RowS w base v es) (o : Obj) : (w.alloc o).ownsRow base 44 3 v es.length (es.flatMap eC) := (h.alloc_ o).row
theorem blk_gr {w w' : World} {g base size n : Nat} {t e : TypeId} {cs : Array Value} {v : Value} {xs : List Value} (hb : Blk w g t cs) (hg : w.grownBy w' v.ownBlock) (ho : w.ownsRow base e size v n xs) (hlt : g < base) : Blk w' g t cs :=
  (hg.block g hb.lt (fun he => by have := (own_at ho g he.symm).1; omega)).trans hb
theorem below_gr {w w' : World} {B base size n : Nat} {e : TypeId} {v : Value} {xs : List Value} (hg : w.grownBy w' v.ownBlock) (ho : w.ownsRow base e size v n xs) (hB : B ≤ base) (hs : B ≤ w.heap.size) : Below B w w' := by
  refine ⟨hg.os, hg.tape, hg.output, hg.size, fun g hgB => ?_⟩
  rcases Nat.lt_or_ge g w.heap.size with hx | hx
  · exact hg.block g hx (fun he => by have := (own_at ho g he.symm).1; omega)
  · omega
theorem rdP_few {K nb : Nat} {b : List Nat} {ps : List Pt} (hl : b.length = nb) (hn : nb < 4) : rdP (K + 1) b ps = none := by
  match b, hl with
  | [], _ => rfl
  | [_], _ => rfl
  | [_, _], _ => rfl
  | [_, _, _], _ => rfl
  | _ :: _ :: _ :: _ :: _, hl => simp at hl; omega
theorem infoCx : (Try.prog.info? 41).map (fun i => (i.zero, i.size, i.bytes)) = some (some (.complex .f64 0 0), 1, 16) := by kernel_rfl
theorem build_onec (a b : Nat) (w : World) : (Instr.buildSlice 42 1 #[(0, .complex .f64 a b)]).run Try.prog w = .ok (.slice (some ⟨w.heap.size, 0, none⟩) 1 1) (w.alloc (.cells #[.complex .f64 a b] 41)) := by kernel_rfl
theorem wp_build1c {w : World} {o : Oper} {a : Act} {K : Act → World → Prop} {Q : Exit → Act → World → Prop} (x : Operand) (hop : o.op = Op.buildSlice 42 1 #[(0, x)])
    (b c : Nat) (hx : a.eval x = .complex .f64 b c)
    (hK : ∀ w' g, Blk w' g 41 #[.complex .f64 b c] → w.heap.size ≤ g → Below w.heap.size w w' → K (a.put o.dst (.slice (some ⟨g, 0, none⟩) 1 1)) w') : Oper.wp Try.prog o a w K Q := by
  have hrun := build_onec b c w
  unfold Oper.wp
  simp [execOp, hop, hx, hrun, Result.andThen]
  exact hK _ _ (Blk.new_ _ _ _) (Nat.le_refl _) ((Below.refl _ _).alloc (Nat.le_refl _) _)
theorem sl_two {w : World} {B : Nat} {A : Option Addr} {x y : Value} {vs : List Value} (h : Sl w B A (x :: y :: vs)) : Sl w B A [x, y] := by
  obtain ⟨b, o, e, hb, hc⟩ := h.at_ (by simp)
  refine Or.inr ⟨b, o, e, hb, fun j u hj => hc j u ?_⟩
  match j, hj with
  | 0, hj => exact hj
  | 1, hj => exact hj
theorem sl_drew {w : World} {B : Nat} {A : Option Addr} {vs : List Value} (h : Sl w B A vs) (hB : B ≤ w.heap.size) : Sl w.drew w.drew.heap.size A vs := (h.below (Below.refl _ _).drew).mono hB
theorem rowP_n {w : World} {base m : Nat} {q : Value} {ps : List Pt} (h : RowP w base q ps) (hm : ps.length = m) : w.ownsRow base 41 1 q m (ps.map ptV) := by
  subst hm
  exact h
theorem rowP_snoc {w : World} {base m : Nat} {q : Value} {ps : List Pt} {p : Pt} (h : w.ownsRow base 41 1 q (m + 1) (ps.map ptV ++ [ptV p])) (hm : ps.length = m) : RowP w base q (ps ++ [p]) := by
  subst hm
  unfold RowP
  rw [List.length_append, List.map_append]
  exact h
theorem st1_facts {wX : World} {g : Nat} {x0 x1 x2 v u q : Value} {es : List (St × Value)} {ps : List Pt} (hX : Blk wX g 44 #[x0, x1, x2]) (hS : RowS wX (g + 1) v es) (hq : RowP wX (g + 1) q ps) :
    ∃ wz, wz = wX.setCell ⟨g, 2, none⟩ u ∧ Below g wX wz ∧ Blk wz g 44 #[x0, x1, u] ∧ RowS wz (g + 1) v es ∧ RowP wz (g + 1) q ps := by
  refine ⟨_, rfl, (Below.refl g wX).setCell (p := ⟨g, 2, none⟩) (Nat.le_refl _) _, hX.set_ 2 u, hS.set_ (p := ⟨g, 2, none⟩) (Nat.lt_succ_self g) _, hq.set_ (p := ⟨g, 2, none⟩) (Nat.lt_succ_self g) _⟩
theorem rd_R0 (b : List Nat) : rd b = fin (R0 b) := by
  cases b with
  | nil => rfl
  | cons x b => rfl
theorem sl_drop {w : World} {B b o : Nat} {vs : List Value} (h : Sl w B (some ⟨b, o, none⟩) vs) (k : Nat) : Sl w B (some ⟨b, o + k, none⟩) (vs.drop k) := by
  rcases h with h | ⟨b', o', e, hb, hc⟩
  · left
    rw [h]
    simp
  · right
    cases e
    refine ⟨b, o + k, rfl, hb, fun j u hj => ?_⟩
    rw [List.getElem?_drop] at hj
    have := hc _ _ hj
    rwa [show o + (k + j) = o + k + j by omega] at this
theorem sl_tail {w : World} {B b o : Nat} {x : Value} {vs : List Value} (h : Sl w B (some ⟨b, o, none⟩) (x :: vs)) : Sl w B (some ⟨b, o + 1, none⟩) vs := sl_drop h 1
theorem J0.mk0' : True := trivial
set_option maxRecDepth 100000 in
set_option maxHeartbeats 4000000 in
theorem sread_any (b : List Nat) (n : Nat) (A : Option Addr) (c : Nat) (w0 : World) (hn : b.length = n) (h : Sl w0 w0.heap.size A (b.map byteV)) (h8 : Bytes8 b) (hc : n ≤ c) (hcm : c ≤ maxLen) (n1 : n ≤ 1000) :
    Calls Try.prog 6 #[.slice A n c] w0 fun e' w' => Got w0 b e' w' ∧ Below w0.heap.size w0 w' := by
  have HB1 : Below w0.heap.size w0 (w0.alloc (.cells #[.int .i64 0, .int .i64 0, .slice none 0 0] 44)) := (Below.refl _ _).alloc (Nat.le_refl _) _
  have HX : Blk (w0.alloc (.cells #[.int .i64 0, .int .i64 0, .slice none 0 0] 44)) w0.heap.size 44 #[.int .i64 0, .int .i64 0, .slice none 0 0] := Blk.new_ _ _ _
  have HH := Lib.hid (And.intro hn h8)
  clear hn h8
  go_enter Try.func6, Try.ntmps6
  go_wp2
  refine wp_scope_many (JJ w0 (R0 b)) ?_ ?_
  · intro l N a' wr hJ hcut
    have HC := Lib.hid hcut
    clear hcut
    rcases hJ with ⟨rfl, hJ⟩ | ⟨rfl, hJ⟩ | ⟨rfl, hJ⟩ | ⟨rfl, hJ⟩
    · obtain ⟨b2, A, nb, c2, left, v, es, x0, x1, x2, lz, u, rfl, hB, hlt, hsl, h8, hbl, hbc, hcm2, hb1, hS, hpl, hX, hlz, hel, hR, hn1⟩ := hJ
      refine ⟨_, (by simp only [findLabel, Nat.reduceBEq, if_true, if_false, Bool.false_eq_true]; rfl), ?_⟩
      by_cases hl0 : left = 0
      · subst hl0
        obtain rfl : lz = 0 := hlz.out
        go_wp2
        go_step3
        exact (show ∃ m, m < N ∧ JJ w0 (R0 b) 1 m _ _ from ⟨1, by omega, Or.inr (Or.inr (Or.inl ⟨rfl, J1.mk ⟨hB, hlt, hsl, h8, hbl, hbc, hcm2, hb1, hS, hpl, hel, hR, Nat.le_refl _⟩⟩))⟩)
      obtain ⟨L, rfl⟩ : ∃ L, left = L + 1 := ⟨left - 1, by omega⟩
      have l0 : ¬ lz = 0 := by have := hlz.out; omega
      have l1 : 1 ≤ lz := by have := hlz.out; omega
      have l2 : lz ≤ 255 := by have := hlz.out; omega
      have HLZ : Hid (lz - 1 = (L : Int)) := Lib.hid (by have := hlz.out; omega)
      by_cases hb2 : nb < 2
      · have i1 : (nb : Int) < 2 := by omega
        have hno : rdS (L + 1) b2 (es.map Prod.fst) = none := by
          have := hbl.out
          match b2, this with
          | [], _ => rfl
          | [_], _ => rfl
          | _ :: _ :: _, this => simp at this; omega
        have HNO := Lib.hid hno
        clear hno
        go_wp2
        go_step3
        exact (show ∃ m, m < N ∧ JJ w0 (R0 b) 0 m _ _ from ⟨0, by omega, Or.inr (Or.inr (Or.inr ⟨rfl, J0.mk ⟨hB, Lib.hid (by rw [← hR.out, HNO.out]; rfl)⟩⟩))⟩)
      obtain ⟨h, kk, bs, rfl⟩ : ∃ h kk bs, b2 = h :: kk :: bs := by
        have := hbl.out
        match b2, this with
        | [], this => simp at this; omega
        | [_], this => simp at this; omega
        | a :: c :: d, _ => exact ⟨a, c, d, rfl⟩
      obtain ⟨b1, o1, rfl, lb1, q1⟩ := hsl.at_ (by simp)
      have z0 : wr.cell? ⟨b1, o1, none⟩ = some (.int .u8 (h : Int)) := q1 0 _ rfl
      have z1 : wr.cell? ⟨b1, o1 + 1, none⟩ = some (.int .u8 (kk : Int)) := q1 1 _ rfl
      have h81 : h < 256 := h8 h (by simp)
      have h82 : kk < 256 := h8 kk (by simp)
      have h83 : Bytes8 bs := fun y hy => h8 y (by simp [hy])
      have i1 : ¬ (nb : Int) < 2 := by omega
      have i2 : 0 < nb := by omega
      have i3 : 1 < nb := by omega
      have j1 : (0 : Int) ≤ (h : Int) := by omega
      have j2 : (h : Int) < 256 := by omega
      obtain ⟨px, hpx⟩ : ∃ p, ((h / 16 : Nat) : Int) = p := ⟨_, rfl⟩
      obtain ⟨qx, hqx⟩ : ∃ p, ((h % 16 : Nat) : Int) = p := ⟨_, rfl⟩
      have e1 := shr_4 h h81
      have e2 := and_15 h h81
      rw [hpx] at e1
      rw [hqx] at e2
      have HPQ := Lib.hid (And.intro hpx hqx)
      have y0 := hX.cell_ 0
      have y1 := hX.cell_ 1
      have y2 := hX.cell_ 2
      simp at y0 y1 y2
      have y9 := hX.free
      have e3 : IntKind.i64.wrap (kk : Int) = (kk : Int) := IntWalk.i64_in _ (by omega)
      have k1 : (0 : Int) ≤ (kk : Int) := by omega
      have k2 : (kk : Int) < 256 := by omega
      have I10 : Hid (bs.length = nb - 2) := Lib.hid (by have := hbl.out; rw [List.length_cons, List.length_cons] at this; omega)
      have i5 : nb - 2 ≤ c2 - 2 := by omega
      have i7 : c2 - 2 ≤ maxLen := by omega
      have i8 : nb - 2 ≤ 1000 := by omega
      have i11 : Hid (([] : List Pt).length + kk ≤ 255) := Lib.hid (by rw [List.length_nil]; omega)
      have i12 : Hid (es.length + 1 + L ≤ 255) := Lib.hid (by omega)
      have i13 : 2 ≤ nb := by omega
      have i16 : (1 : Int) < (nb : Int) := by omega
      have i14 : 2 ≤ c2 := by omega
      have i15 : (2 : Int) ≤ (nb : Int) := by omega
      have HR3 : Hid (((rdP kk bs []).bind fun r => rdS L r.2 (es.map Prod.fst ++ [(h, r.1)])) = R0 b) := Lib.hid ((rdS_step _ _ _ _ _).trans hR.out)
      obtain ⟨wq, hwq, HWQ, HXQ, HSQ⟩ := st3_facts px qx hX hS
      have HBQ := hB.trans HWQ
      have HQL := HXQ.lt
      have z1 := (HWQ.cell (p := ⟨b1, o1 + 1, none⟩) lb1).trans z1
      have HSL : Sl wq w0.heap.size (some ⟨b1, o1 + 2, none⟩) (bs.map byteV) := (sl_drop hsl 2).below HWQ
      have HWH := Lib.hid hwq
      clear q1 hpx hqx hwq
      go_upto_region 8 with fail
      refine wp_region_noPanic ?_
      refine wp_region_held_drew (S := (fun w' => w'.cell? ⟨b1, o1, none⟩ = some (.int .u8 (h : Int)))) (by kernel_rfl) ?_ (fun hHeld => ?_)
      · (first | exact z0 | exact hHeld | (rw [← HWH.out]; exact (HWQ.cell (p := ⟨b1, o1, none⟩) lb1).trans z0) | assumption)
      refine wpAnyH_take (i := 0) (oi := { dst := some 22, op := Op.move (Operand.tmp 0), type := 22, pos := "stroke.go:83", after := #[], guard := none }) (v := ?_) rfl (by kernel_rfl) (by kernel_rfl) (by kernel_rfl) (fun _ _ _ h => h) (Or.inl ⟨by rfl, ?_⟩) (by assumption) ?_
      rotate_left
      · (intro wS hSw; (try dsimp only at hSw); go_simp; (try with_reducible rfl))
      try simp only [Act.put, List.setIfInBounds_toArray, List.set_cons_zero, List.set_cons_succ]
      refine wpAnyH_take (i := 1) (oi := { dst := some 23, op := Op.indexAddr 22 (Operand.tmp 22) (Operand.const (Value.int IntKind.i64 0)), type := 0, pos := "stroke.go:83", after := #[{ on := 0, ground := Ground.data }], guard := none }) (v := ?_) rfl (by kernel_rfl) (by kernel_rfl) (by kernel_rfl) (fun _ _ _ h => h) (Or.inl ⟨by rfl, ?_⟩) (by assumption) ?_
      rotate_left
      · (intro wS hSw; (try dsimp only at hSw); go_simp; (try with_reducible rfl))
      try simp only [Act.put, List.setIfInBounds_toArray, List.set_cons_zero, List.set_cons_succ]
      refine wpAnyH_take (i := 2) (oi := { dst := some 24, op := Op.load 5 (Operand.tmp 23), type := 5, pos := "stroke.go:83", after := #[{ on := 1, ground := Ground.data }], guard := none }) (v := ?_) rfl (by kernel_rfl) (by kernel_rfl) (by kernel_rfl) (fun _ _ _ h => h) (Or.inl ⟨by rfl, ?_⟩) (by assumption) ?_
      rotate_left
      · (intro wS hSw; (try dsimp only at hSw); go_simp; (try with_reducible rfl))
      try simp only [Act.put, List.setIfInBounds_toArray, List.set_cons_zero, List.set_cons_succ]
      refine wpAnyH_take (i := 3) (oi := { dst := some 25, op := Op.binOp BinOp.shr 5 (Operand.tmp 24) (Operand.const (Value.int IntKind.u64 4)) 46, type := 5, pos := "stroke.go:83", after := #[{ on := 2, ground := Ground.data }], guard := none }) (v := ?_) rfl (by kernel_rfl) (by kernel_rfl) (by kernel_rfl) (fun _ _ _ h => h) (Or.inl ⟨by rfl, ?_⟩) (by assumption) ?_
      rotate_left
      · (intro wS hSw; (try dsimp only at hSw); go_simp; (try with_reducible rfl))
      try simp only [Act.put, List.setIfInBounds_toArray, List.set_cons_zero, List.set_cons_succ]
      refine wpAnyH_take (i := 4) (oi := { dst := some 26, op := Op.convert 5 3 (Operand.tmp 25), type := 3, pos := "stroke.go:83", after := #[{ on := 3, ground := Ground.data }], guard := none }) (v := ?_) rfl (by kernel_rfl) (by kernel_rfl) (by kernel_rfl) (fun _ _ _ h => h) (Or.inl ⟨by rfl, ?_⟩) (by assumption) ?_
      rotate_left
      · (intro wS hSw; (try dsimp only at hSw); go_simp; (try with_reducible rfl))
      try simp only [Act.put, List.setIfInBounds_toArray, List.set_cons_zero, List.set_cons_succ]
      refine wpAnyH_take (i := 5) (oi := { dst := some 27, op := Op.move (Operand.tmp 0), type := 22, pos := "stroke.go:83", after := #[], guard := none }) (v := ?_) rfl (by kernel_rfl) (by kernel_rfl) (by kernel_rfl) (fun _ _ _ h => h) (Or.inl ⟨by rfl, ?_⟩) (by assumption) ?_
      rotate_left
      · (intro wS hSw; (try dsimp only at hSw); go_simp; (try with_reducible rfl))
      try simp only [Act.put, List.setIfInBounds_toArray, List.set_cons_zero, List.set_cons_succ]
      refine wpAnyH_take (i := 6) (oi := { dst := some 28, op := Op.indexAddr 22 (Operand.tmp 27) (Operand.const (Value.int IntKind.i64 0)), type := 0, pos := "stroke.go:83", after := #[{ on := 5, ground := Ground.data }], guard := none }) (v := ?_) rfl (by kernel_rfl) (by kernel_rfl) (by kernel_rfl) (fun _ _ _ h => h) (Or.inl ⟨by rfl, ?_⟩) (by assumption) ?_
      rotate_left
      · (intro wS hSw; (try dsimp only at hSw); go_simp; (try with_reducible rfl))
      try simp only [Act.put, List.setIfInBounds_toArray, List.set_cons_zero, List.set_cons_succ]
      refine wpAnyH_take (i := 7) (oi := { dst := some 29, op := Op.load 5 (Operand.tmp 28), type := 5, pos := "stroke.go:83", after := #[{ on := 6, ground := Ground.data }], guard := none }) (v := ?_) rfl (by kernel_rfl) (by kernel_rfl) (by kernel_rfl) (fun _ _ _ h => h) (Or.inl ⟨by rfl, ?_⟩) (by assumption) ?_
      rotate_left
      · (intro wS hSw; (try dsimp only at hSw); go_simp; (try with_reducible rfl))
      try simp only [Act.put, List.setIfInBounds_toArray, List.set_cons_zero, List.set_cons_succ]
      refine wpAnyH_take (i := 8) (oi := { dst := some 30, op := Op.binOp BinOp.and 5 (Operand.tmp 29) (Operand.const (Value.int IntKind.u8 15)) 5, type := 5, pos := "stroke.go:83", after := #[{ on := 7, ground := Ground.data }], guard := none }) (v := ?_) rfl (by kernel_rfl) (by kernel_rfl) (by kernel_rfl) (fun _ _ _ h => h) (Or.inl ⟨by rfl, ?_⟩) (by assumption) ?_
      rotate_left
      · (intro wS hSw; (try dsimp only at hSw); go_simp; (try with_reducible rfl))
      try simp only [Act.put, List.setIfInBounds_toArray, List.set_cons_zero, List.set_cons_succ]
      refine wpAnyH_take (i := 9) (oi := { dst := some 31, op := Op.convert 5 3 (Operand.tmp 30), type := 3, pos := "stroke.go:83", after := #[{ on := 8, ground := Ground.data }], guard := none }) (v := ?_) rfl (by kernel_rfl) (by kernel_rfl) (by kernel_rfl) (fun _ _ _ h => h) (Or.inl ⟨by rfl, ?_⟩) (by assumption) ?_
      rotate_left
      · (intro wS hSw; (try dsimp only at hSw); go_simp; (try with_reducible rfl))
      try simp only [Act.put, List.setIfInBounds_toArray, List.set_cons_zero, List.set_cons_succ]
      refine wpAnyH_take (i := 10) (oi := { dst := some 32, op := Op.build 44 #[(0, Operand.tmp 26), (1, Operand.tmp 31)], type := 44, pos := "stroke.go:83", after := #[{ on := 4, ground := Ground.data }, { on := 9, ground := Ground.data }], guard := none }) (v := ?_) rfl (by kernel_rfl) (by kernel_rfl) (by kernel_rfl) (fun _ _ _ h => h) (Or.inl ⟨by rfl, ?_⟩) (by assumption) ?_
      rotate_left
      · (intro wS hSw; (try dsimp only at hSw); go_simp; (try with_reducible rfl))
      try simp only [Act.put, List.setIfInBounds_toArray, List.set_cons_zero, List.set_cons_succ]
      refine wpAnyH_ready (rs := [11]) (by kernel_rfl) (by simp) ?_
      refine AllReadyH.cons (o := { dst := none, op := Op.store 44 (Operand.tmp 5) (Operand.tmp 32), type := 0, pos := "stroke.go:83", after := #[{ on := 10, ground := Ground.data }, { on := 0, ground := Ground.phase }, { on := 1, ground := Ground.phase }, { on := 2, ground := Ground.phase }, { on := 3, ground := Ground.phase }, { on := 4, ground := Ground.phase }, { on := 5, ground := Ground.phase }, { on := 6, ground := Ground.phase }, { on := 7, ground := Ground.phase }, { on := 8, ground := Ground.phase }, { on := 9, ground := Ground.phase }, { on := 10, ground := Ground.phase }], guard := none }) rfl (fun K hK => ?_) AllReadyH.nil
      go_simp
      refine hK.out _ _ ?_ (fun hNew => ?_)
      · (first | exact z0 | exact hHeld | (rw [← HWH.out]; exact (HWQ.cell (p := ⟨b1, o1, none⟩) lb1).trans z0) | assumption)
      clear hK K hHeld
      have hHeld := hNew
      clear hNew
      try simp only [Act.put, List.setIfInBounds_toArray, List.set_cons_zero, List.set_cons_succ]
      refine wpAnyH_done (by kernel_rfl) ?_ _
      refine NoPanic.normal ?_
      clear hHeld
      rw [← HWH.out]
      clear HWH
      by_cases hc1 : c2 = 2
      · subst hc1
        obtain rfl : bs = [] := by
          have := hbl.out
          cases bs with
          | nil => rfl
          | cons y bs => simp at this; omega
        go_upto_region 9 with fail
        refine wp_region_noPanic ?_
        refine wp_region_held_drew (S := (fun w' => w'.cell? ⟨b1, o1 + 1, none⟩ = some (.int .u8 (kk : Int)))) (by kernel_rfl) ?_ (fun hHeld => ?_)
        · (first | exact z1 | assumption)
        refine wpAnyH_take (i := 0) (oi := { dst := some 33, op := Op.move (Operand.tmp 0), type := 22, pos := "stroke.go:84", after := #[], guard := none }) (v := ?_) rfl (by kernel_rfl) (by kernel_rfl) (by kernel_rfl) (fun _ _ _ h => h) (Or.inl ⟨by rfl, ?_⟩) (by assumption) ?_
        rotate_left
        · (intro wS hSw; (try dsimp only at hSw); go_simp; (try with_reducible rfl))
        try simp only [Act.put, List.setIfInBounds_toArray, List.set_cons_zero, List.set_cons_succ]
        refine wpAnyH_take (i := 1) (oi := { dst := some 34, op := Op.indexAddr 22 (Operand.tmp 33) (Operand.const (Value.int IntKind.i64 1)), type := 0, pos := "stroke.go:84", after := #[{ on := 0, ground := Ground.data }], guard := none }) (v := ?_) rfl (by kernel_rfl) (by kernel_rfl) (by kernel_rfl) (fun _ _ _ h => h) (Or.inl ⟨by rfl, ?_⟩) (by assumption) ?_
        rotate_left
        · (intro wS hSw; (try dsimp only at hSw); go_simp; (try with_reducible rfl))
        try simp only [Act.put, List.setIfInBounds_toArray, List.set_cons_zero, List.set_cons_succ]
        refine wpAnyH_take (i := 2) (oi := { dst := some 35, op := Op.load 5 (Operand.tmp 34), type := 5, pos := "stroke.go:84", after := #[{ on := 1, ground := Ground.data }], guard := none }) (v := ?_) rfl (by kernel_rfl) (by kernel_rfl) (by kernel_rfl) (fun _ _ _ h => h) (Or.inl ⟨by rfl, ?_⟩) (by assumption) ?_
        rotate_left
        · (intro wS hSw; (try dsimp only at hSw); go_simp; (try with_reducible rfl))
        try simp only [Act.put, List.setIfInBounds_toArray, List.set_cons_zero, List.set_cons_succ]
        refine wpAnyH_take (i := 3) (oi := { dst := some 36, op := Op.convert 5 3 (Operand.tmp 35), type := 3, pos := "stroke.go:84", after := #[{ on := 2, ground := Ground.data }], guard := none }) (v := ?_) rfl (by kernel_rfl) (by kernel_rfl) (by kernel_rfl) (fun _ _ _ h => h) (Or.inl ⟨by rfl, ?_⟩) (by assumption) ?_
        rotate_left
        · (intro wS hSw; (try dsimp only at hSw); go_simp; (try with_reducible rfl))
        try simp only [Act.put, List.setIfInBounds_toArray, List.set_cons_zero, List.set_cons_succ]
        refine wpAnyH_take (i := 4) (oi := { dst := some 37, op := Op.move (Operand.tmp 0), type := 22, pos := "stroke.go:84", after := #[], guard := none }) (v := ?_) rfl (by kernel_rfl) (by kernel_rfl) (by kernel_rfl) (fun _ _ _ h => h) (Or.inl ⟨by rfl, ?_⟩) (by assumption) ?_
        rotate_left
        · (intro wS hSw; (try dsimp only at hSw); go_simp; (try with_reducible rfl))
        try simp only [Act.put, List.setIfInBounds_toArray, List.set_cons_zero, List.set_cons_succ]
        refine wpAnyH_take (i := 5) (oi := { dst := some 38, op := Op.slice 22 (Operand.tmp 37) (some (Operand.const (Value.int IntKind.i64 2))) none none, type := 22, pos := "stroke.go:84", after := #[{ on := 4, ground := Ground.data }], guard := none }) (v := ?_) rfl (by kernel_rfl) (by kernel_rfl) (by kernel_rfl) (fun _ _ _ h => h) (Or.inl ⟨by rfl, ?_⟩) (by assumption) ?_
        rotate_left
        · (intro wS hSw; (try dsimp only at hSw); go_simp; (try with_reducible rfl))
        try simp only [Act.put, List.setIfInBounds_toArray, List.set_cons_zero, List.set_cons_succ]
        refine wpAnyH_take (i := 6) (oi := { dst := some 7, op := Op.assign (Operand.tmp 36), type := 3, pos := "stroke.go:84", after := #[{ on := 3, ground := Ground.data }, { on := 0, ground := Ground.phase }, { on := 1, ground := Ground.phase }, { on := 2, ground := Ground.phase }, { on := 3, ground := Ground.phase }, { on := 4, ground := Ground.textOnly Departure.lateStores }, { on := 5, ground := Ground.textOnly Departure.lateStoresUnsure }], guard := none }) (v := ?_) rfl (by kernel_rfl) (by kernel_rfl) (by kernel_rfl) (fun _ _ _ h => h) (Or.inl ⟨by rfl, ?_⟩) (by assumption) ?_
        rotate_left
        · (intro wS hSw; (try dsimp only at hSw); go_simp; (try with_reducible rfl))
        try simp only [Act.put, List.setIfInBounds_toArray, List.set_cons_zero, List.set_cons_succ]
        refine wpAnyH_take (i := 7) (oi := { dst := some 0, op := Op.assign (Operand.tmp 38), type := 22, pos := "stroke.go:84", after := #[{ on := 5, ground := Ground.data }, { on := 6, ground := Ground.chain }, { on := 0, ground := Ground.phase }, { on := 1, ground := Ground.phase }, { on := 2, ground := Ground.phase }, { on := 3, ground := Ground.phase }, { on := 4, ground := Ground.phase }, { on := 5, ground := Ground.phase }, { on := 6, ground := Ground.phase }], guard := none }) (v := ?_) rfl (by kernel_rfl) (by kernel_rfl) (by kernel_rfl) (fun _ _ _ h => h) (Or.inl ⟨by rfl, ?_⟩) (by assumption) ?_
        rotate_left
        · (intro wS hSw; (try dsimp only at hSw); go_simp; (try with_reducible rfl))
        try simp only [Act.put, List.setIfInBounds_toArray, List.set_cons_zero, List.set_cons_succ]
        refine wpAnyH_done (by kernel_rfl) ?_ _
        refine NoPanic.normal ?_
        go_wp2_with fail
        rename_i K hK
        go_step3
        show K _ _
        refine hK _ _ ?_
        exact HC.out 3 _ _ _ (show 3 * 0 + 3 < N by omega) (Or.inr (Or.inl ⟨rfl, J3.mk (b := []) (es := es) (ps := []) (h := h) (k := kk) (left := L) ⟨HBQ.drew, HQL, Sl.nil_, h83, Lib.hid (show ([] : List Nat).length = 0 from rfl), Nat.le_refl _, Nat.zero_le _, Nat.zero_le _, HSQ.below (Below.refl _ _).drew, hpl, HXQ, Lib.hid ⟨HLZ.out, rfl, HPQ.out.1.symm, HPQ.out.2.symm⟩, RowP.nil_ _ _, Ap.nil_ _, (fun e he => Ap.nil2 _), i11.out, i12.out, HR3, Nat.le_refl _⟩⟩)) _ (by kernel_rfl)
      
      · have i6 : ¬ 2 = c2 := by omega
        go_upto_region 9 with fail
        refine wp_region_noPanic ?_
        refine wp_region_held_drew (S := (fun w' => w'.cell? ⟨b1, o1 + 1, none⟩ = some (.int .u8 (kk : Int)))) (by kernel_rfl) ?_ (fun hHeld => ?_)
        · (first | exact z1 | assumption)
        refine wpAnyH_take (i := 0) (oi := { dst := some 33, op := Op.move (Operand.tmp 0), type := 22, pos := "stroke.go:84", after := #[], guard := none }) (v := ?_) rfl (by kernel_rfl) (by kernel_rfl) (by kernel_rfl) (fun _ _ _ h => h) (Or.inl ⟨by rfl, ?_⟩) (by assumption) ?_
        rotate_left
        · (intro wS hSw; (try dsimp only at hSw); go_simp; (try with_reducible rfl))
        try simp only [Act.put, List.setIfInBounds_toArray, List.set_cons_zero, List.set_cons_succ]
        refine wpAnyH_take (i := 1) (oi := { dst := some 34, op := Op.indexAddr 22 (Operand.tmp 33) (Operand.const (Value.int IntKind.i64 1)), type := 0, pos := "stroke.go:84", after := #[{ on := 0, ground := Ground.data }], guard := none }) (v := ?_) rfl (by kernel_rfl) (by kernel_rfl) (by kernel_rfl) (fun _ _ _ h => h) (Or.inl ⟨by rfl, ?_⟩) (by assumption) ?_
        rotate_left
        · (intro wS hSw; (try dsimp only at hSw); go_simp; (try with_reducible rfl))
        try simp only [Act.put, List.setIfInBounds_toArray, List.set_cons_zero, List.set_cons_succ]
        refine wpAnyH_take (i := 2) (oi := { dst := some 35, op := Op.load 5 (Operand.tmp 34), type := 5, pos := "stroke.go:84", after := #[{ on := 1, ground := Ground.data }], guard := none }) (v := ?_) rfl (by kernel_rfl) (by kernel_rfl) (by kernel_rfl) (fun _ _ _ h => h) (Or.inl ⟨by rfl, ?_⟩) (by assumption) ?_
        rotate_left
        · (intro wS hSw; (try dsimp only at hSw); go_simp; (try with_reducible rfl))
        try simp only [Act.put, List.setIfInBounds_toArray, List.set_cons_zero, List.set_cons_succ]
        refine wpAnyH_take (i := 3) (oi := { dst := some 36, op := Op.convert 5 3 (Operand.tmp 35), type := 3, pos := "stroke.go:84", after := #[{ on := 2, ground := Ground.data }], guard := none }) (v := ?_) rfl (by kernel_rfl) (by kernel_rfl) (by kernel_rfl) (fun _ _ _ h => h) (Or.inl ⟨by rfl, ?_⟩) (by assumption) ?_
        rotate_left
        · (intro wS hSw; (try dsimp only at hSw); go_simp; (try with_reducible rfl))
        try simp only [Act.put, List.setIfInBounds_toArray, List.set_cons_zero, List.set_cons_succ]
        refine wpAnyH_take (i := 4) (oi := { dst := some 37, op := Op.move (Operand.tmp 0), type := 22, pos := "stroke.go:84", after := #[], guard := none }) (v := ?_) rfl (by kernel_rfl) (by kernel_rfl) (by kernel_rfl) (fun _ _ _ h => h) (Or.inl ⟨by rfl, ?_⟩) (by assumption) ?_
        rotate_left
        · (intro wS hSw; (try dsimp only at hSw); go_simp; (try with_reducible rfl))
        try simp only [Act.put, List.setIfInBounds_toArray, List.set_cons_zero, List.set_cons_succ]
        refine wpAnyH_take (i := 5) (oi := { dst := some 38, op := Op.slice 22 (Operand.tmp 37) (some (Operand.const (Value.int IntKind.i64 2))) none none, type := 22, pos := "stroke.go:84", after := #[{ on := 4, ground := Ground.data }], guard := none }) (v := ?_) rfl (by kernel_rfl) (by kernel_rfl) (by kernel_rfl) (fun _ _ _ h => h) (Or.inl ⟨by rfl, ?_⟩) (by assumption) ?_
        rotate_left
        · (intro wS hSw; (try dsimp only at hSw); go_simp; (try with_reducible rfl))
        try simp only [Act.put, List.setIfInBounds_toArray, List.set_cons_zero, List.set_cons_succ]
        refine wpAnyH_take (i := 6) (oi := { dst := some 7, op := Op.assign (Operand.tmp 36), type := 3, pos := "stroke.go:84", after := #[{ on := 3, ground := Ground.data }, { on := 0, ground := Ground.phase }, { on := 1, ground := Ground.phase }, { on := 2, ground := Ground.phase }, { on := 3, ground := Ground.phase }, { on := 4, ground := Ground.textOnly Departure.lateStores }, { on := 5, ground := Ground.textOnly Departure.lateStoresUnsure }], guard := none }) (v := ?_) rfl (by kernel_rfl) (by kernel_rfl) (by kernel_rfl) (fun _ _ _ h => h) (Or.inl ⟨by rfl, ?_⟩) (by assumption) ?_
        rotate_left
        · (intro wS hSw; (try dsimp only at hSw); go_simp; (try with_reducible rfl))
        try simp only [Act.put, List.setIfInBounds_toArray, List.set_cons_zero, List.set_cons_succ]
        refine wpAnyH_take (i := 7) (oi := { dst := some 0, op := Op.assign (Operand.tmp 38), type := 22, pos := "stroke.go:84", after := #[{ on := 5, ground := Ground.data }, { on := 6, ground := Ground.chain }, { on := 0, ground := Ground.phase }, { on := 1, ground := Ground.phase }, { on := 2, ground := Ground.phase }, { on := 3, ground := Ground.phase }, { on := 4, ground := Ground.phase }, { on := 5, ground := Ground.phase }, { on := 6, ground := Ground.phase }], guard := none }) (v := ?_) rfl (by kernel_rfl) (by kernel_rfl) (by kernel_rfl) (fun _ _ _ h => h) (Or.inl ⟨by rfl, ?_⟩) (by assumption) ?_
        rotate_left
        · (intro wS hSw; (try dsimp only at hSw); go_simp; (try with_reducible rfl))
        try simp only [Act.put, List.setIfInBounds_toArray, List.set_cons_zero, List.set_cons_succ]
        refine wpAnyH_done (by kernel_rfl) ?_ _
        refine NoPanic.normal ?_
        go_wp2_with fail
        rename_i K hK
        go_step3
        show K _ _
        refine hK _ _ ?_
        exact HC.out 3 _ _ _ (by omega) (Or.inr (Or.inl ⟨rfl, J3.mk (b := bs) (es := es) (ps := []) (h := h) (k := kk) (left := L) ⟨HBQ.drew, HQL, HSL, h83, I10, i5, i7, i8, HSQ.below (Below.refl _ _).drew, hpl, HXQ, Lib.hid ⟨HLZ.out, rfl, HPQ.out.1.symm, HPQ.out.2.symm⟩, RowP.nil_ _ _, Ap.nil_ _, (fun e he => Ap.nil2 _), i11.out, i12.out, HR3, Nat.le_refl _⟩⟩)) _ (by kernel_rfl)
      

    · obtain ⟨b2, A, nb, c2, left, k, h, v, q, es, ps, lz, kz, px, qx, u, rfl, hB, hlt, hsl, h8, hbl, hbc, hcm2, hb1, hS, hpl, hX, hz, hP, hav, hae, hpk, hel, hR, hn1⟩ := hJ
      refine ⟨_, (by simp only [findLabel, Nat.reduceBEq, if_true, if_false, Bool.false_eq_true]; rfl), ?_⟩
      have l2 : lz ≤ 255 := by have := hz.out; omega
      have l3 : 0 ≤ lz := by have := hz.out; omega
      by_cases hk0 : k = 0
      · subst hk0
        obtain rfl : kz = 0 := hz.out.2.1
        obtain ⟨-, A3, c3, hq3⟩ := own_slP hP
        obtain ⟨m, hm⟩ : ∃ m, ps.length = m := ⟨_, rfl⟩
        rw [hm] at hq3
        subst hq3
        have HM := Lib.hid hm
        have HPK : Hid (ps.length ≤ 255) := Lib.hid (by omega)
        have y0 := hX.cell_ 0
        have y1 := hX.cell_ 1
        have y2 := hX.cell_ 2
        simp at y0 y1 y2
        have y9 := hX.free
        have HN3 : Hid (es.length ≤ 255) := Lib.hid (by omega)
        have HEL := Lib.hid hel
        clear hm hpk hel
        go_wp2_with (at_builtin; obtain ⟨ti0, hi, hz0, hz1, hz2⟩ := info_parts infoSt; refine wpList_app _ rfl (.tmp 43) (.tmp 45) _ rfl (w0.heap.size + 1) 44 ti0 _ 3 40 Try.underlying26 hi hz0 hz1 hz2 rfl (by decide) v es.length (es.flatMap eC) rfl (rowS_n hS _) _ 1 _ [.int .i64 px, .int .i64 qx, .slice A3 m c3] rfl (rd_newS _ _ _ _ _ _ rfl) (by simp [Value.oneCell']) (by have := HN3.out; unfold maxLen; omega) (by have := HN3.out; omega) (by simp; omega) ?_; intro v2 w2 ho2 hg2 hv2)
        go_step3
        have hBw : Below w0.heap.size wr w2 := ((Below.refl _ _).alloc (by omega) _).trans (below_gr hg2 (rowS_n hS _) (by omega) (by simp; omega))
        obtain ⟨zl, -, zp, zq⟩ := hz.out
        subst zp zq
        have hS2 : RowS w2 (w0.heap.size + 1) v2 (es ++ [((h, ps), .slice A3 m c3)]) := str_app (hP.alloc_ _) (hS.alloc_ _) hav ho2 hg2 hv2
        exact (show ∃ m, m < N ∧ JJ w0 (R0 b) 2 m _ _ from ⟨_, (show 3 * nb + 2 < N by omega), Or.inl ⟨rfl, J2.mk ⟨hB.trans hBw, Nat.lt_of_lt_of_le hlt hBw.size, hsl.below hBw, h8, hbl, hbc, hcm2, hb1, hS2, Lib.hid (by
          intro e he
          rcases List.mem_append.1 he with he | he
          · exact hpl.out e he
          · obtain rfl : e = ((h, ps), .slice A3 m c3) := by simpa using he
            exact HPK.out), blk_gr (hX.alloc_ _) hg2 (rowS_n hS _) (by omega), Lib.hid zl, by have := HEL.out; simp; omega, Lib.hid (by rw [← hR.out, List.map_append]; rfl), Nat.le_refl _⟩⟩⟩)
      obtain ⟨K, rfl⟩ : ∃ K, k = K + 1 := ⟨k - 1, by omega⟩
      have m0 : ¬ kz = 0 := by have := hz.out; omega
      have m1 : 1 ≤ kz := by have := hz.out; omega
      have m2 : kz ≤ 255 := by have := hz.out; omega
      by_cases hb2 : nb < 4
      · have i1 : (nb : Int) < 4 := by omega
        have HNO : Hid (rdP (K + 1) b2 ps = none) := Lib.hid (rdP_few hbl.out hb2)
        go_wp2
        go_step3
        exact (show ∃ m, m < N ∧ JJ w0 (R0 b) 0 m _ _ from ⟨0, by omega, Or.inr (Or.inr (Or.inr ⟨rfl, J0.mk ⟨hB, Lib.hid (by rw [← hR.out, HNO.out]; rfl)⟩⟩))⟩)
      obtain ⟨a, cc, d, e, bs, rfl⟩ : ∃ a cc d e bs, b2 = a :: cc :: d :: e :: bs := by
        have := hbl.out
        match b2, this with
        | [], this => simp at this; omega
        | [_], this => simp at this; omega
        | [_, _], this => simp at this; omega
        | [_, _, _], this => simp at this; omega
        | a :: c :: d :: e :: f, _ => exact ⟨a, c, d, e, f, rfl⟩
      obtain ⟨b1, o1, rfl, lb1, -⟩ := hsl.at_ (by simp)
      have ha8 : a < 256 := h8 a (by simp)
      have hc8 : cc < 256 := h8 cc (by simp)
      have hd8 : d < 256 := h8 d (by simp)
      have he8 : e < 256 := h8 e (by simp)
      have h83 : Bytes8 bs := fun y hy => h8 y (by simp [hy])
      have sla : Sl wr.drew wr.drew.heap.size (some ⟨b1, o1, none⟩) ([a, cc].map byteV) := sl_drew (sl_two hsl) (by omega)
      have slb : Sl wr.drew wr.drew.heap.size (some ⟨b1, o1 + 2, none⟩) ([d, e].map byteV) := sl_drew (sl_two (sl_drop hsl 2)) (by omega)
      have HSL : Sl wr w0.heap.size (some ⟨b1, o1 + 4, none⟩) (bs.map byteV) := sl_drop hsl 4
      obtain ⟨-, A3, c3, hq3⟩ := own_slP hP
      obtain ⟨m, hm⟩ : ∃ m, ps.length = m := ⟨_, rfl⟩
      rw [hm] at hq3
      subst hq3
      have hm255 : m ≤ 255 := by omega
      have HM := Lib.hid hm
      have HPK : Hid ((ps ++ [(a, cc, d, e)]).length + K ≤ 255) := Lib.hid (by rw [List.length_append, List.length_singleton]; omega)
      have HKZ : Hid (kz - 1 = (K : Int)) := Lib.hid (by have := hz.out; omega)
      have I10 : Hid (bs.length = nb - 4) := Lib.hid (by have := hbl.out; simp at this; omega)
      have HR3 : Hid (((rdP K bs (ps ++ [(a, cc, d, e)])).bind fun r => rdS left r.2 (es.map Prod.fst ++ [(h, r.1)])) = R0 b) := Lib.hid hR.out
      have HEL := Lib.hid hel
      have i1 : ¬ (nb : Int) < 4 := by omega
      have i2 : (4 : Int) ≤ (nb : Int) := by omega
      have i3 : 4 ≤ nb := by omega
      have i4 : 4 ≤ c2 := by omega
      have i5 : nb - 4 ≤ c2 - 4 := by omega
      have i6 : (4 : Int) ≤ (c2 : Int) := by omega
      have i7 : c2 - 4 ≤ maxLen := by omega
      have i8 : nb - 4 ≤ 1000 := by omega
      have i9 : (2 : Int) ≤ (c2 : Int) := by omega
      have i10 : ¬ 2 = c2 := by omega
      have i11 : ¬ c2 = 2 := by omega
      have i12 : 2 ≤ c2 := by omega
      have y2 := hX.cell_ 2
      simp at y2
      have y9 := hX.free
      have HQX : Blk wr.drew w0.heap.size 44 #[.int .i64 px, .int .i64 qx, .slice A3 m c3] := hX
      have HQS := hS.below (Below.refl _ wr).drew
      have HQP := hP.below (Below.refl _ wr).drew
      clear hm hpk hel
      go_upto_region 14 with fail
      refine wp_region_noPanic ?_
      refine wp_region_held_drew (S := (fun _ => True)) (by kernel_rfl) ?_ (fun hHeld => ?_)
      · exact trivial
      refine wpAnyH_take (i := 0) (oi := { dst := some 50, op := Op.fieldAddr 44 (Operand.tmp 5) 2, type := 0, pos := "stroke.go:95", after := #[], guard := none }) (v := ?_) rfl (by kernel_rfl) (by kernel_rfl) (by kernel_rfl) (fun _ _ _ h => h) (Or.inl ⟨by rfl, ?_⟩) (by assumption) ?_
      rotate_left
      · (intro wS hSw; (try dsimp only at hSw); go_simp; (try with_reducible rfl))
      try simp only [Act.put, List.setIfInBounds_toArray, List.set_cons_zero, List.set_cons_succ]
      refine wpAnyH_take (i := 2) (oi := { dst := some 52, op := Op.move (Operand.tmp 0), type := 22, pos := "stroke.go:95", after := #[], guard := none }) (v := ?_) rfl (by kernel_rfl) (by kernel_rfl) (by kernel_rfl) (fun _ _ _ h => h) (Or.inl ⟨by rfl, ?_⟩) (by assumption) ?_
      rotate_left
      · (intro wS hSw; (try dsimp only at hSw); go_simp; (try with_reducible rfl))
      try simp only [Act.put, List.setIfInBounds_toArray, List.set_cons_zero, List.set_cons_succ]
      refine wpAnyH_take (i := 3) (oi := { dst := some 53, op := Op.slice 22 (Operand.tmp 52) none (some (Operand.const (Value.int IntKind.i64 2))) none, type := 22, pos := "stroke.go:95", after := #[{ on := 2, ground := Ground.data }], guard := none }) (v := ?_) rfl (by kernel_rfl) (by kernel_rfl) (by kernel_rfl) (fun _ _ _ h => h) (Or.inl ⟨by rfl, ?_⟩) (by assumption) ?_
      rotate_left
      · (intro wS hSw; (try dsimp only at hSw); go_simp; (try with_reducible rfl))
      try simp only [Act.put, List.setIfInBounds_toArray, List.set_cons_zero, List.set_cons_succ]
      refine wpAnyH_take (i := 5) (oi := { dst := some 55, op := Op.move (Operand.tmp 0), type := 22, pos := "stroke.go:95", after := #[], guard := none }) (v := ?_) rfl (by kernel_rfl) (by kernel_rfl) (by kernel_rfl) (fun _ _ _ h => h) (Or.inl ⟨by rfl, ?_⟩) (by assumption) ?_
      rotate_left
      · (intro wS hSw; (try dsimp only at hSw); go_simp; (try with_reducible rfl))
      try simp only [Act.put, List.setIfInBounds_toArray, List.set_cons_zero, List.set_cons_succ]
      refine wpAnyH_take (i := 6) (oi := { dst := some 56, op := Op.slice 22 (Operand.tmp 55) (some (Operand.const (Value.int IntKind.i64 2))) (some (Operand.const (Value.int IntKind.i64 4))) none, type := 22, pos := "stroke.go:95", after := #[{ on := 5, ground := Ground.data }], guard := none }) (v := ?_) rfl (by kernel_rfl) (by kernel_rfl) (by kernel_rfl) (fun _ _ _ h => h) (Or.inl ⟨by rfl, ?_⟩) (by assumption) ?_
      rotate_left
      · (intro wS hSw; (try dsimp only at hSw); go_simp; (try with_reducible rfl))
      try simp only [Act.put, List.setIfInBounds_toArray, List.set_cons_zero, List.set_cons_succ]
      refine wpAnyH_ready (rs := [1, 4]) (by kernel_rfl) (by simp) ?_
      refine (AllReadyH.cons (o := { dst := some 51, op := Op.load 42 (Operand.tmp 50), type := 42, pos := "stroke.go:95", after := #[{ on := 0, ground := Ground.data }], guard := none }) rfl (fun K hK => ?_) (AllReadyH.cons (o := { dst := some 54, op := Op.call { callee := Callee.value (Operand.func 17), args := #[Operand.tmp 53], argTypes := #[22] }, type := 47, pos := "stroke.go:95", after := #[{ on := 3, ground := Ground.data }], guard := none }) rfl (fun K hK => ?_) AllReadyH.nil))
      · go_simp
        refine hK.out _ _ ?_ (fun hNew => ?_)
        · exact trivial
        clear hK K hHeld
        have hHeld := hNew
        clear hNew
        try simp only [Act.put, List.setIfInBounds_toArray, List.set_cons_zero, List.set_cons_succ]
        refine wpAnyH_ready (rs := [4]) (by kernel_rfl) (by simp) ?_
        refine AllReadyH.cons (o := { dst := some 54, op := Op.call { callee := Callee.value (Operand.func 17), args := #[Operand.tmp 53], argTypes := #[22] }, type := 47, pos := "stroke.go:95", after := #[{ on := 3, ground := Ground.data }], guard := none }) rfl (fun K hK => ?_) AllReadyH.nil
        go_simp
        (first | (go_at_call 17; ((with_reducible refine (part_c a cc _ _ _ sla ha8 hc8).mono ?_); rintro e' wQ ⟨rfl, rfl⟩)) | (go_at_call 17; ((with_reducible refine (part_c d e _ _ _ slb hd8 he8).mono ?_); rintro e' wQ ⟨rfl, rfl⟩)))
        go_wp2_with fail
        refine hK.out _ _ ?_ (fun hNew => ?_)
        · exact trivial
        clear hK K hHeld
        have hHeld := hNew
        clear hNew
        try simp only [Act.put, List.setIfInBounds_toArray, List.set_cons_zero, List.set_cons_succ]
        refine wpAnyH_ready (rs := [7]) (by kernel_rfl) (by simp) ?_
        refine AllReadyH.cons (o := { dst := some 57, op := Op.call { callee := Callee.value (Operand.func 17), args := #[Operand.tmp 56], argTypes := #[22] }, type := 47, pos := "stroke.go:95", after := #[{ on := 6, ground := Ground.data }, { on := 4, ground := Ground.chain }], guard := none }) rfl (fun K hK => ?_) AllReadyH.nil
        go_simp
        (first | (go_at_call 17; ((with_reducible refine (part_c a cc _ _ _ sla ha8 hc8).mono ?_); rintro e' wQ ⟨rfl, rfl⟩)) | (go_at_call 17; ((with_reducible refine (part_c d e _ _ _ slb hd8 he8).mono ?_); rintro e' wQ ⟨rfl, rfl⟩)))
        go_wp2_with fail
        refine hK.out _ _ ?_ (fun hNew => ?_)
        · exact trivial
        clear hK K hHeld
        have hHeld := hNew
        clear hNew
        try simp only [Act.put, List.setIfInBounds_toArray, List.set_cons_zero, List.set_cons_succ]
        refine wpAnyH_take (i := 8) (oi := { dst := some 58, op := Op.call { callee := Callee.builtin Builtin.complex, args := #[Operand.tmp 54, Operand.tmp 57], argTypes := #[47, 47] }, type := 41, pos := "stroke.go:95", after := #[{ on := 4, ground := Ground.data }, { on := 7, ground := Ground.data }], guard := none }) (v := ?_) rfl (by kernel_rfl) (by kernel_rfl) (by kernel_rfl) (fun _ _ _ h => h) (Or.inl ⟨by rfl, ?_⟩) (by assumption) ?_
        rotate_left
        · (intro wS hSw; (try dsimp only at hSw); go_simp; (try with_reducible rfl))
        try simp only [Act.put, List.setIfInBounds_toArray, List.set_cons_zero, List.set_cons_succ]
        refine wpAnyH_ready (rs := [9]) (by kernel_rfl) (by simp) ?_
        refine AllReadyH.cons (o := { dst := some 59, op := Op.buildSlice 42 1 #[(0, Operand.tmp 58)], type := 42, pos := "stroke.go:95", after := #[{ on := 8, ground := Ground.data }], guard := none }) rfl (fun K hK => ?_) AllReadyH.nil
        refine wp_build1c _ rfl (F (ptz a cc)) (F (ptz d e)) rfl ?_
        intro wN b3 B3 hqb hb
        have HNX := HQX.below hb HQX.lt
        have HNS := HQS.below hb
        have HNP := HQP.below hb
        have HNB : Below w0.heap.size wr wN := (Below.refl _ wr).drew.trans (hb.mono (Nat.le_of_lt hlt))
        clear hb
        have y2N := HNX.cell_ 2
        simp at y2N
        refine hK.out _ _ ?_ (fun hNew => ?_)
        · exact trivial
        clear hK K hHeld
        have hHeld := hNew
        clear hNew
        try simp only [Act.put, List.setIfInBounds_toArray, List.set_cons_zero, List.set_cons_succ]
        refine wpAnyH_ready (rs := [10]) (by kernel_rfl) (by simp) ?_
        refine AllReadyH.cons (o := { dst := some 60, op := Op.call { callee := Callee.builtin Builtin.append, args := #[Operand.tmp 51, Operand.tmp 59], argTypes := #[42, 42] }, type := 42, pos := "stroke.go:95", after := #[{ on := 1, ground := Ground.data }, { on := 9, ground := Ground.data }, { on := 7, ground := Ground.chain }], guard := none }) rfl (fun K hK => ?_) AllReadyH.nil
        obtain ⟨ti0, hi9, hz0, hz1, hz2⟩ := info_parts infoCx
        refine wp_app _ (.tmp 51) (.tmp 59) 42 rfl (w0.heap.size + 1) 41 ti0 _ 1 16 Try.underlying42 hi9 hz0 hz1 hz2 rfl (by decide) (.slice A3 m c3) m (ps.map ptV) rfl (rowP_n HNP HM.out) _ 1 1 [.complex .f64 (F (ptz a cc)) (F (ptz d e))] rfl (Rd.one (B3.cell_ 0)) (by intro u hu; simp at hu; subst hu; rfl) (by unfold maxLen; omega) (by omega) (by have := HNB.size; omega) ?_
        intro v2 wX hoX hgX hvX
        clear hi9 hz0 hz1 hz2
        have hPX0 : RowP wX (w0.heap.size + 1) v2 (ps ++ [(a, cc, d, e)]) := rowP_snoc hoX HM.out
        obtain ⟨HXS, HXA, HXE⟩ := pts_app HNP HNS hav hae hgX hvX
        have HXX := blk_gr HNX hgX HNP (Nat.lt_succ_self _)
        have HXB : Below w0.heap.size wr wX := HNB.trans (below_gr hgX HNP (Nat.le_succ _) (by have := HNB.size; omega))
        obtain ⟨-, A4, c4, hv4⟩ := own_slP hPX0
        obtain ⟨m4, hm4⟩ : ∃ m4, (ps ++ [(a, cc, d, e)]).length = m4 := ⟨_, rfl⟩
        rw [hm4] at hv4
        subst hv4
        clear hm4 hoX hgX hvX
        have y2X := HXX.cell_ 2
        simp at y2X
        have y9X := HXX.free
        refine hK.out _ _ ?_ (fun hNew => ?_)
        · exact trivial
        clear hK K hHeld
        have hHeld := hNew
        clear hNew
        try simp only [Act.put, List.setIfInBounds_toArray, List.set_cons_zero, List.set_cons_succ]
        refine wpAnyH_take (i := 11) (oi := { dst := some 61, op := Op.fieldAddr 44 (Operand.tmp 5) 2, type := 0, pos := "stroke.go:95", after := #[{ on := 0, ground := Ground.phase }, { on := 1, ground := Ground.phase }, { on := 2, ground := Ground.phase }, { on := 3, ground := Ground.phase }, { on := 4, ground := Ground.phase }, { on := 5, ground := Ground.phase }, { on := 6, ground := Ground.phase }, { on := 7, ground := Ground.phase }, { on := 8, ground := Ground.phase }, { on := 9, ground := Ground.phase }, { on := 10, ground := Ground.phase }], guard := none }) (v := ?_) rfl (by kernel_rfl) (by kernel_rfl) (by kernel_rfl) (fun _ _ _ h => h) (Or.inl ⟨by rfl, ?_⟩) (by assumption) ?_
        rotate_left
        · (intro wS hSw; (try dsimp only at hSw); go_simp; (try with_reducible rfl))
        try simp only [Act.put, List.setIfInBounds_toArray, List.set_cons_zero, List.set_cons_succ]
        refine wpAnyH_ready (rs := [12]) (by kernel_rfl) (by simp) ?_
        refine AllReadyH.cons (o := { dst := none, op := Op.store 42 (Operand.tmp 61) (Operand.tmp 60), type := 0, pos := "stroke.go:95", after := #[{ on := 11, ground := Ground.data }, { on := 10, ground := Ground.data }, { on := 10, ground := Ground.chain }, { on := 0, ground := Ground.phase }, { on := 1, ground := Ground.phase }, { on := 2, ground := Ground.phase }, { on := 3, ground := Ground.phase }, { on := 4, ground := Ground.phase }, { on := 5, ground := Ground.phase }, { on := 6, ground := Ground.phase }, { on := 7, ground := Ground.phase }, { on := 8, ground := Ground.phase }, { on := 9, ground := Ground.phase }, { on := 10, ground := Ground.phase }], guard := none }) rfl (fun K hK => ?_) AllReadyH.nil
        go_simp
        refine hK.out _ _ ?_ (fun hNew => ?_)
        · exact trivial
        clear hK K hHeld
        have hHeld := hNew
        clear hNew
        try simp only [Act.put, List.setIfInBounds_toArray, List.set_cons_zero, List.set_cons_succ]
        refine wpAnyH_done (by kernel_rfl) ?_ _
        refine NoPanic.normal ?_
        obtain ⟨wz, hwz, HZB, HZX, HZS, HZP⟩ := st1_facts (u := .slice A4 m4 c4) HXX HXS hPX0
        have HZZ := HXB.trans HZB
        have HZL := HZX.lt
        have HWZ := Lib.hid hwz
        clear hwz
        rw [← HWZ.out]
        clear HWZ
        by_cases hc1 : c2 = 4
        · subst hc1
          obtain rfl : bs = [] := by
            have := I10.out
            cases bs with
            | nil => rfl
            | cons y bs => simp at this; omega
          go_wp2_with fail
          go_step3
          exact (show ∃ m', m' < N ∧ JJ w0 (R0 b) 3 m' _ _ from ⟨_, (show 3 * 0 + 3 < N by omega), Or.inr (Or.inl ⟨rfl, J3.mk (b := []) (es := es) (ps := ps ++ [(a, cc, d, e)]) (h := h) (k := K) (left := left) ⟨hB.trans HZZ, HZL, Sl.nil_, h83, Lib.hid (show ([] : List Nat).length = 0 from rfl), Nat.le_refl _, Nat.zero_le _, Nat.zero_le _, HZS, hpl, HZX, Lib.hid ⟨hz.out.1, HKZ.out, hz.out.2.2.1, hz.out.2.2.2⟩, HZP, HXA, HXE, HPK.out, HEL.out, HR3, Nat.le_refl _⟩⟩)⟩)
        · have i13 : ¬ 4 = c2 := by omega
          go_wp2_with fail
          go_step3
          exact (show ∃ m', m' < N ∧ JJ w0 (R0 b) 3 m' _ _ from ⟨_, (show 3 * (nb - 4) + 3 < N by omega), Or.inr (Or.inl ⟨rfl, J3.mk (b := bs) (es := es) (ps := ps ++ [(a, cc, d, e)]) (h := h) (k := K) (left := left) ⟨hB.trans HZZ, HZL, HSL.below HZZ, h83, I10, i5, i7, i8, HZS, hpl, HZX, Lib.hid ⟨hz.out.1, HKZ.out, hz.out.2.2.1, hz.out.2.2.2⟩, HZP, HXA, HXE, HPK.out, HEL.out, HR3, Nat.le_refl _⟩⟩)⟩)
      · go_simp
        (first | (go_at_call 17; ((with_reducible refine (part_c a cc _ _ _ sla ha8 hc8).mono ?_); rintro e' wQ ⟨rfl, rfl⟩)) | (go_at_call 17; ((with_reducible refine (part_c d e _ _ _ slb hd8 he8).mono ?_); rintro e' wQ ⟨rfl, rfl⟩)))
        go_wp2_with fail
        refine hK.out _ _ ?_ (fun hNew => ?_)
        · exact trivial
        clear hK K hHeld
        have hHeld := hNew
        clear hNew
        try simp only [Act.put, List.setIfInBounds_toArray, List.set_cons_zero, List.set_cons_succ]
        refine wpAnyH_ready (rs := [1, 7]) (by kernel_rfl) (by simp) ?_
        refine (AllReadyH.cons (o := { dst := some 51, op := Op.load 42 (Operand.tmp 50), type := 42, pos := "stroke.go:95", after := #[{ on := 0, ground := Ground.data }], guard := none }) rfl (fun K hK => ?_) (AllReadyH.cons (o := { dst := some 57, op := Op.call { callee := Callee.value (Operand.func 17), args := #[Operand.tmp 56], argTypes := #[22] }, type := 47, pos := "stroke.go:95", after := #[{ on := 6, ground := Ground.data }, { on := 4, ground := Ground.chain }], guard := none }) rfl (fun K hK => ?_) AllReadyH.nil))
        · go_simp
          refine hK.out _ _ ?_ (fun hNew => ?_)
          · exact trivial
          clear hK K hHeld
          have hHeld := hNew
          clear hNew
          try simp only [Act.put, List.setIfInBounds_toArray, List.set_cons_zero, List.set_cons_succ]
          refine wpAnyH_ready (rs := [7]) (by kernel_rfl) (by simp) ?_
          refine AllReadyH.cons (o := { dst := some 57, op := Op.call { callee := Callee.value (Operand.func 17), args := #[Operand.tmp 56], argTypes := #[22] }, type := 47, pos := "stroke.go:95", after := #[{ on := 6, ground := Ground.data }, { on := 4, ground := Ground.chain }], guard := none }) rfl (fun K hK => ?_) AllReadyH.nil
          go_simp
          (first | (go_at_call 17; ((with_reducible refine (part_c a cc _ _ _ sla ha8 hc8).mono ?_); rintro e' wQ ⟨rfl, rfl⟩)) | (go_at_call 17; ((with_reducible refine (part_c d e _ _ _ slb hd8 he8).mono ?_); rintro e' wQ ⟨rfl, rfl⟩)))
          go_wp2_with fail
          refine hK.out _ _ ?_ (fun hNew => ?_)
          · exact trivial
          clear hK K hHeld
          have hHeld := hNew
          clear hNew
          try simp only [Act.put, List.setIfInBounds_toArray, List.set_cons_zero, List.set_cons_succ]
          refine wpAnyH_take (i := 8) (oi := { dst := some 58, op := Op.call { callee := Callee.builtin Builtin.complex, args := #[Operand.tmp 54, Operand.tmp 57], argTypes := #[47, 47] }, type := 41, pos := "stroke.go:95", after := #[{ on := 4, ground := Ground.data }, { on := 7, ground := Ground.data }], guard := none }) (v := ?_) rfl (by kernel_rfl) (by kernel_rfl) (by kernel_rfl) (fun _ _ _ h => h) (Or.inl ⟨by rfl, ?_⟩) (by assumption) ?_
          rotate_left
          · (intro wS hSw; (try dsimp only at hSw); go_simp; (try with_reducible rfl))
          try simp only [Act.put, List.setIfInBounds_toArray, List.set_cons_zero, List.set_cons_succ]
          refine wpAnyH_ready (rs := [9]) (by kernel_rfl) (by simp) ?_
          refine AllReadyH.cons (o := { dst := some 59, op := Op.buildSlice 42 1 #[(0, Operand.tmp 58)], type := 42, pos := "stroke.go:95", after := #[{ on := 8, ground := Ground.data }], guard := none }) rfl (fun K hK => ?_) AllReadyH.nil
          refine wp_build1c _ rfl (F (ptz a cc)) (F (ptz d e)) rfl ?_
          intro wN b3 B3 hqb hb
          have HNX := HQX.below hb HQX.lt
          have HNS := HQS.below hb
          have HNP := HQP.below hb
          have HNB : Below w0.heap.size wr wN := (Below.refl _ wr).drew.trans (hb.mono (Nat.le_of_lt hlt))
          clear hb
          have y2N := HNX.cell_ 2
          simp at y2N
          refine hK.out _ _ ?_ (fun hNew => ?_)
          · exact trivial
          clear hK K hHeld
          have hHeld := hNew
          clear hNew
          try simp only [Act.put, List.setIfInBounds_toArray, List.set_cons_zero, List.set_cons_succ]
          refine wpAnyH_ready (rs := [10]) (by kernel_rfl) (by simp) ?_
          refine AllReadyH.cons (o := { dst := some 60, op := Op.call { callee := Callee.builtin Builtin.append, args := #[Operand.tmp 51, Operand.tmp 59], argTypes := #[42, 42] }, type := 42, pos := "stroke.go:95", after := #[{ on := 1, ground := Ground.data }, { on := 9, ground := Ground.data }, { on := 7, ground := Ground.chain }], guard := none }) rfl (fun K hK => ?_) AllReadyH.nil
          obtain ⟨ti0, hi9, hz0, hz1, hz2⟩ := info_parts infoCx
          refine wp_app _ (.tmp 51) (.tmp 59) 42 rfl (w0.heap.size + 1) 41 ti0 _ 1 16 Try.underlying42 hi9 hz0 hz1 hz2 rfl (by decide) (.slice A3 m c3) m (ps.map ptV) rfl (rowP_n HNP HM.out) _ 1 1 [.complex .f64 (F (ptz a cc)) (F (ptz d e))] rfl (Rd.one (B3.cell_ 0)) (by intro u hu; simp at hu; subst hu; rfl) (by unfold maxLen; omega) (by omega) (by have := HNB.size; omega) ?_
          intro v2 wX hoX hgX hvX
          clear hi9 hz0 hz1 hz2
          have hPX0 : RowP wX (w0.heap.size + 1) v2 (ps ++ [(a, cc, d, e)]) := rowP_snoc hoX HM.out
          obtain ⟨HXS, HXA, HXE⟩ := pts_app HNP HNS hav hae hgX hvX
          have HXX := blk_gr HNX hgX HNP (Nat.lt_succ_self _)
          have HXB : Below w0.heap.size wr wX := HNB.trans (below_gr hgX HNP (Nat.le_succ _) (by have := HNB.size; omega))
          obtain ⟨-, A4, c4, hv4⟩ := own_slP hPX0
          obtain ⟨m4, hm4⟩ : ∃ m4, (ps ++ [(a, cc, d, e)]).length = m4 := ⟨_, rfl⟩
          rw [hm4] at hv4
          subst hv4
          clear hm4 hoX hgX hvX
          have y2X := HXX.cell_ 2
          simp at y2X
          have y9X := HXX.free
          refine hK.out _ _ ?_ (fun hNew => ?_)
          · exact trivial
          clear hK K hHeld
          have hHeld := hNew
          clear hNew
          try simp only [Act.put, List.setIfInBounds_toArray, List.set_cons_zero, List.set_cons_succ]
          refine wpAnyH_take (i := 11) (oi := { dst := some 61, op := Op.fieldAddr 44 (Operand.tmp 5) 2, type := 0, pos := "stroke.go:95", after := #[{ on := 0, ground := Ground.phase }, { on := 1, ground := Ground.phase }, { on := 2, ground := Ground.phase }, { on := 3, ground := Ground.phase }, { on := 4, ground := Ground.phase }, { on := 5, ground := Ground.phase }, { on := 6, ground := Ground.phase }, { on := 7, ground := Ground.phase }, { on := 8, ground := Ground.phase }, { on := 9, ground := Ground.phase }, { on := 10, ground := Ground.phase }], guard := none }) (v := ?_) rfl (by kernel_rfl) (by kernel_rfl) (by kernel_rfl) (fun _ _ _ h => h) (Or.inl ⟨by rfl, ?_⟩) (by assumption) ?_
          rotate_left
          · (intro wS hSw; (try dsimp only at hSw); go_simp; (try with_reducible rfl))
          try simp only [Act.put, List.setIfInBounds_toArray, List.set_cons_zero, List.set_cons_succ]
          refine wpAnyH_ready (rs := [12]) (by kernel_rfl) (by simp) ?_
          refine AllReadyH.cons (o := { dst := none, op := Op.store 42 (Operand.tmp 61) (Operand.tmp 60), type := 0, pos := "stroke.go:95", after := #[{ on := 11, ground := Ground.data }, { on := 10, ground := Ground.data }, { on := 10, ground := Ground.chain }, { on := 0, ground := Ground.phase }, { on := 1, ground := Ground.phase }, { on := 2, ground := Ground.phase }, { on := 3, ground := Ground.phase }, { on := 4, ground := Ground.phase }, { on := 5, ground := Ground.phase }, { on := 6, ground := Ground.phase }, { on := 7, ground := Ground.phase }, { on := 8, ground := Ground.phase }, { on := 9, ground := Ground.phase }, { on := 10, ground := Ground.phase }], guard := none }) rfl (fun K hK => ?_) AllReadyH.nil
          go_simp
          refine hK.out _ _ ?_ (fun hNew => ?_)
          · exact trivial
          clear hK K hHeld
          have hHeld := hNew
          clear hNew
          try simp only [Act.put, List.setIfInBounds_toArray, List.set_cons_zero, List.set_cons_succ]
          refine wpAnyH_done (by kernel_rfl) ?_ _
          refine NoPanic.normal ?_
          obtain ⟨wz, hwz, HZB, HZX, HZS, HZP⟩ := st1_facts (u := .slice A4 m4 c4) HXX HXS hPX0
          have HZZ := HXB.trans HZB
          have HZL := HZX.lt
          have HWZ := Lib.hid hwz
          clear hwz
          rw [← HWZ.out]
          clear HWZ
          by_cases hc1 : c2 = 4
          · subst hc1
            obtain rfl : bs = [] := by
              have := I10.out
              cases bs with
              | nil => rfl
              | cons y bs => simp at this; omega
            go_wp2_with fail
            go_step3
            exact (show ∃ m', m' < N ∧ JJ w0 (R0 b) 3 m' _ _ from ⟨_, (show 3 * 0 + 3 < N by omega), Or.inr (Or.inl ⟨rfl, J3.mk (b := []) (es := es) (ps := ps ++ [(a, cc, d, e)]) (h := h) (k := K) (left := left) ⟨hB.trans HZZ, HZL, Sl.nil_, h83, Lib.hid (show ([] : List Nat).length = 0 from rfl), Nat.le_refl _, Nat.zero_le _, Nat.zero_le _, HZS, hpl, HZX, Lib.hid ⟨hz.out.1, HKZ.out, hz.out.2.2.1, hz.out.2.2.2⟩, HZP, HXA, HXE, HPK.out, HEL.out, HR3, Nat.le_refl _⟩⟩)⟩)
          · have i13 : ¬ 4 = c2 := by omega
            go_wp2_with fail
            go_step3
            exact (show ∃ m', m' < N ∧ JJ w0 (R0 b) 3 m' _ _ from ⟨_, (show 3 * (nb - 4) + 3 < N by omega), Or.inr (Or.inl ⟨rfl, J3.mk (b := bs) (es := es) (ps := ps ++ [(a, cc, d, e)]) (h := h) (k := K) (left := left) ⟨hB.trans HZZ, HZL, HSL.below HZZ, h83, I10, i5, i7, i8, HZS, hpl, HZX, Lib.hid ⟨hz.out.1, HKZ.out, hz.out.2.2.1, hz.out.2.2.2⟩, HZP, HXA, HXE, HPK.out, HEL.out, HR3, Nat.le_refl _⟩⟩)⟩)
        · go_simp
          (first | (go_at_call 17; ((with_reducible refine (part_c a cc _ _ _ sla ha8 hc8).mono ?_); rintro e' wQ ⟨rfl, rfl⟩)) | (go_at_call 17; ((with_reducible refine (part_c d e _ _ _ slb hd8 he8).mono ?_); rintro e' wQ ⟨rfl, rfl⟩)))
          go_wp2_with fail
          refine hK.out _ _ ?_ (fun hNew => ?_)
          · exact trivial
          clear hK K hHeld
          have hHeld := hNew
          clear hNew
          try simp only [Act.put, List.setIfInBounds_toArray, List.set_cons_zero, List.set_cons_succ]
          refine wpAnyH_take (i := 8) (oi := { dst := some 58, op := Op.call { callee := Callee.builtin Builtin.complex, args := #[Operand.tmp 54, Operand.tmp 57], argTypes := #[47, 47] }, type := 41, pos := "stroke.go:95", after := #[{ on := 4, ground := Ground.data }, { on := 7, ground := Ground.data }], guard := none }) (v := ?_) rfl (by kernel_rfl) (by kernel_rfl) (by kernel_rfl) (fun _ _ _ h => h) (Or.inl ⟨by rfl, ?_⟩) (by assumption) ?_
          rotate_left
          · (intro wS hSw; (try dsimp only at hSw); go_simp; (try with_reducible rfl))
          try simp only [Act.put, List.setIfInBounds_toArray, List.set_cons_zero, List.set_cons_succ]
          refine wpAnyH_ready (rs := [1, 9]) (by kernel_rfl) (by simp) ?_
          refine (AllReadyH.cons (o := { dst := some 51, op := Op.load 42 (Operand.tmp 50), type := 42, pos := "stroke.go:95", after := #[{ on := 0, ground := Ground.data }], guard := none }) rfl (fun K hK => ?_) (AllReadyH.cons (o := { dst := some 59, op := Op.buildSlice 42 1 #[(0, Operand.tmp 58)], type := 42, pos := "stroke.go:95", after := #[{ on := 8, ground := Ground.data }], guard := none }) rfl (fun K hK => ?_) AllReadyH.nil))
          · go_simp
            refine hK.out _ _ ?_ (fun hNew => ?_)
            · exact trivial
            clear hK K hHeld
            have hHeld := hNew
            clear hNew
            try simp only [Act.put, List.setIfInBounds_toArray, List.set_cons_zero, List.set_cons_succ]
            refine wpAnyH_ready (rs := [9]) (by kernel_rfl) (by simp) ?_
            refine AllReadyH.cons (o := { dst := some 59, op := Op.buildSlice 42 1 #[(0, Operand.tmp 58)], type := 42, pos := "stroke.go:95", after := #[{ on := 8, ground := Ground.data }], guard := none }) rfl (fun K hK => ?_) AllReadyH.nil
            refine wp_build1c _ rfl (F (ptz a cc)) (F (ptz d e)) rfl ?_
            intro wN b3 B3 hqb hb
            have HNX := HQX.below hb HQX.lt
            have HNS := HQS.below hb
            have HNP := HQP.below hb
            have HNB : Below w0.heap.size wr wN := (Below.refl _ wr).drew.trans (hb.mono (Nat.le_of_lt hlt))
            clear hb
            have y2N := HNX.cell_ 2
            simp at y2N
            refine hK.out _ _ ?_ (fun hNew => ?_)
            · exact trivial
            clear hK K hHeld
            have hHeld := hNew
            clear hNew
            try simp only [Act.put, List.setIfInBounds_toArray, List.set_cons_zero, List.set_cons_succ]
            refine wpAnyH_ready (rs := [10]) (by kernel_rfl) (by simp) ?_
            refine AllReadyH.cons (o := { dst := some 60, op := Op.call { callee := Callee.builtin Builtin.append, args := #[Operand.tmp 51, Operand.tmp 59], argTypes := #[42, 42] }, type := 42, pos := "stroke.go:95", after := #[{ on := 1, ground := Ground.data }, { on := 9, ground := Ground.data }, { on := 7, ground := Ground.chain }], guard := none }) rfl (fun K hK => ?_) AllReadyH.nil
            obtain ⟨ti0, hi9, hz0, hz1, hz2⟩ := info_parts infoCx
            refine wp_app _ (.tmp 51) (.tmp 59) 42 rfl (w0.heap.size + 1) 41 ti0 _ 1 16 Try.underlying42 hi9 hz0 hz1 hz2 rfl (by decide) (.slice A3 m c3) m (ps.map ptV) rfl (rowP_n HNP HM.out) _ 1 1 [.complex .f64 (F (ptz a cc)) (F (ptz d e))] rfl (Rd.one (B3.cell_ 0)) (by intro u hu; simp at hu; subst hu; rfl) (by unfold maxLen; omega) (by omega) (by have := HNB.size; omega) ?_
            intro v2 wX hoX hgX hvX
            clear hi9 hz0 hz1 hz2
            have hPX0 : RowP wX (w0.heap.size + 1) v2 (ps ++ [(a, cc, d, e)]) := rowP_snoc hoX HM.out
            obtain ⟨HXS, HXA, HXE⟩ := pts_app HNP HNS hav hae hgX hvX
            have HXX := blk_gr HNX hgX HNP (Nat.lt_succ_self _)
            have HXB : Below w0.heap.size wr wX := HNB.trans (below_gr hgX HNP (Nat.le_succ _) (by have := HNB.size; omega))
            obtain ⟨-, A4, c4, hv4⟩ := own_slP hPX0
            obtain ⟨m4, hm4⟩ : ∃ m4, (ps ++ [(a, cc, d, e)]).length = m4 := ⟨_, rfl⟩
            rw [hm4] at hv4
            subst hv4
            clear hm4 hoX hgX hvX
            have y2X := HXX.cell_ 2
            simp at y2X
            have y9X := HXX.free
            refine hK.out _ _ ?_ (fun hNew => ?_)
            · exact trivial
            clear hK K hHeld
            have hHeld := hNew
            clear hNew
            try simp only [Act.put, List.setIfInBounds_toArray, List.set_cons_zero, List.set_cons_succ]
            refine wpAnyH_take (i := 11) (oi := { dst := some 61, op := Op.fieldAddr 44 (Operand.tmp 5) 2, type := 0, pos := "stroke.go:95", after := #[{ on := 0, ground := Ground.phase }, { on := 1, ground := Ground.phase }, { on := 2, ground := Ground.phase }, { on := 3, ground := Ground.phase }, { on := 4, ground := Ground.phase }, { on := 5, ground := Ground.phase }, { on := 6, ground := Ground.phase }, { on := 7, ground := Ground.phase }, { on := 8, ground := Ground.phase }, { on := 9, ground := Ground.phase }, { on := 10, ground := Ground.phase }], guard := none }) (v := ?_) rfl (by kernel_rfl) (by kernel_rfl) (by kernel_rfl) (fun _ _ _ h => h) (Or.inl ⟨by rfl, ?_⟩) (by assumption) ?_
            rotate_left
            · (intro wS hSw; (try dsimp only at hSw); go_simp; (try with_reducible rfl))
            try simp only [Act.put, List.setIfInBounds_toArray, List.set_cons_zero, List.set_cons_succ]
            refine wpAnyH_ready (rs := [12]) (by kernel_rfl) (by simp) ?_
            refine AllReadyH.cons (o := { dst := none, op := Op.store 42 (Operand.tmp 61) (Operand.tmp 60), type := 0, pos := "stroke.go:95", after := #[{ on := 11, ground := Ground.data }, { on := 10, ground := Ground.data }, { on := 10, ground := Ground.chain }, { on := 0, ground := Ground.phase }, { on := 1, ground := Ground.phase }, { on := 2, ground := Ground.phase }, { on := 3, ground := Ground.phase }, { on := 4, ground := Ground.phase }, { on := 5, ground := Ground.phase }, { on := 6, ground := Ground.phase }, { on := 7, ground := Ground.phase }, { on := 8, ground := Ground.phase }, { on := 9, ground := Ground.phase }, { on := 10, ground := Ground.phase }], guard := none }) rfl (fun K hK => ?_) AllReadyH.nil
            go_simp
            refine hK.out _ _ ?_ (fun hNew => ?_)
            · exact trivial
            clear hK K hHeld
            have hHeld := hNew
            clear hNew
            try simp only [Act.put, List.setIfInBounds_toArray, List.set_cons_zero, List.set_cons_succ]
            refine wpAnyH_done (by kernel_rfl) ?_ _
            refine NoPanic.normal ?_
            obtain ⟨wz, hwz, HZB, HZX, HZS, HZP⟩ := st1_facts (u := .slice A4 m4 c4) HXX HXS hPX0
            have HZZ := HXB.trans HZB
            have HZL := HZX.lt
            have HWZ := Lib.hid hwz
            clear hwz
            rw [← HWZ.out]
            clear HWZ
            by_cases hc1 : c2 = 4
            · subst hc1
              obtain rfl : bs = [] := by
                have := I10.out
                cases bs with
                | nil => rfl
                | cons y bs => simp at this; omega
              go_wp2_with fail
              go_step3
              exact (show ∃ m', m' < N ∧ JJ w0 (R0 b) 3 m' _ _ from ⟨_, (show 3 * 0 + 3 < N by omega), Or.inr (Or.inl ⟨rfl, J3.mk (b := []) (es := es) (ps := ps ++ [(a, cc, d, e)]) (h := h) (k := K) (left := left) ⟨hB.trans HZZ, HZL, Sl.nil_, h83, Lib.hid (show ([] : List Nat).length = 0 from rfl), Nat.le_refl _, Nat.zero_le _, Nat.zero_le _, HZS, hpl, HZX, Lib.hid ⟨hz.out.1, HKZ.out, hz.out.2.2.1, hz.out.2.2.2⟩, HZP, HXA, HXE, HPK.out, HEL.out, HR3, Nat.le_refl _⟩⟩)⟩)
            · have i13 : ¬ 4 = c2 := by omega
              go_wp2_with fail
              go_step3
              exact (show ∃ m', m' < N ∧ JJ w0 (R0 b) 3 m' _ _ from ⟨_, (show 3 * (nb - 4) + 3 < N by omega), Or.inr (Or.inl ⟨rfl, J3.mk (b := bs) (es := es) (ps := ps ++ [(a, cc, d, e)]) (h := h) (k := K) (left := left) ⟨hB.trans HZZ, HZL, HSL.below HZZ, h83, I10, i5, i7, i8, HZS, hpl, HZX, Lib.hid ⟨hz.out.1, HKZ.out, hz.out.2.2.1, hz.out.2.2.2⟩, HZP, HXA, HXE, HPK.out, HEL.out, HR3, Nat.le_refl _⟩⟩)⟩)
          · refine wp_build1c _ rfl (F (ptz a cc)) (F (ptz d e)) rfl ?_
            intro wN b3 B3 hqb hb
            have HNX := HQX.below hb HQX.lt
            have HNS := HQS.below hb
            have HNP := HQP.below hb
            have HNB : Below w0.heap.size wr wN := (Below.refl _ wr).drew.trans (hb.mono (Nat.le_of_lt hlt))
            clear hb
            have y2N := HNX.cell_ 2
            simp at y2N
            refine hK.out _ _ ?_ (fun hNew => ?_)
            · exact trivial
            clear hK K hHeld
            have hHeld := hNew
            clear hNew
            try simp only [Act.put, List.setIfInBounds_toArray, List.set_cons_zero, List.set_cons_succ]
            refine wpAnyH_ready (rs := [1]) (by kernel_rfl) (by simp) ?_
            refine AllReadyH.cons (o := { dst := some 51, op := Op.load 42 (Operand.tmp 50), type := 42, pos := "stroke.go:95", after := #[{ on := 0, ground := Ground.data }], guard := none }) rfl (fun K hK => ?_) AllReadyH.nil
            go_simp
            refine hK.out _ _ ?_ (fun hNew => ?_)
            · exact trivial
            clear hK K hHeld
            have hHeld := hNew
            clear hNew
            try simp only [Act.put, List.setIfInBounds_toArray, List.set_cons_zero, List.set_cons_succ]
            refine wpAnyH_ready (rs := [10]) (by kernel_rfl) (by simp) ?_
            refine AllReadyH.cons (o := { dst := some 60, op := Op.call { callee := Callee.builtin Builtin.append, args := #[Operand.tmp 51, Operand.tmp 59], argTypes := #[42, 42] }, type := 42, pos := "stroke.go:95", after := #[{ on := 1, ground := Ground.data }, { on := 9, ground := Ground.data }, { on := 7, ground := Ground.chain }], guard := none }) rfl (fun K hK => ?_) AllReadyH.nil
            obtain ⟨ti0, hi9, hz0, hz1, hz2⟩ := info_parts infoCx
            refine wp_app _ (.tmp 51) (.tmp 59) 42 rfl (w0.heap.size + 1) 41 ti0 _ 1 16 Try.underlying42 hi9 hz0 hz1 hz2 rfl (by decide) (.slice A3 m c3) m (ps.map ptV) rfl (rowP_n HNP HM.out) _ 1 1 [.complex .f64 (F (ptz a cc)) (F (ptz d e))] rfl (Rd.one (B3.cell_ 0)) (by intro u hu; simp at hu; subst hu; rfl) (by unfold maxLen; omega) (by omega) (by have := HNB.size; omega) ?_
            intro v2 wX hoX hgX hvX
            clear hi9 hz0 hz1 hz2
            have hPX0 : RowP wX (w0.heap.size + 1) v2 (ps ++ [(a, cc, d, e)]) := rowP_snoc hoX HM.out
            obtain ⟨HXS, HXA, HXE⟩ := pts_app HNP HNS hav hae hgX hvX
            have HXX := blk_gr HNX hgX HNP (Nat.lt_succ_self _)
            have HXB : Below w0.heap.size wr wX := HNB.trans (below_gr hgX HNP (Nat.le_succ _) (by have := HNB.size; omega))
            obtain ⟨-, A4, c4, hv4⟩ := own_slP hPX0
            obtain ⟨m4, hm4⟩ : ∃ m4, (ps ++ [(a, cc, d, e)]).length = m4 := ⟨_, rfl⟩
            rw [hm4] at hv4
            subst hv4
            clear hm4 hoX hgX hvX
            have y2X := HXX.cell_ 2
            simp at y2X
            have y9X := HXX.free
            refine hK.out _ _ ?_ (fun hNew => ?_)
            · exact trivial
            clear hK K hHeld
            have hHeld := hNew
            clear hNew
            try simp only [Act.put, List.setIfInBounds_toArray, List.set_cons_zero, List.set_cons_succ]
            refine wpAnyH_take (i := 11) (oi := { dst := some 61, op := Op.fieldAddr 44 (Operand.tmp 5) 2, type := 0, pos := "stroke.go:95", after := #[{ on := 0, ground := Ground.phase }, { on := 1, ground := Ground.phase }, { on := 2, ground := Ground.phase }, { on := 3, ground := Ground.phase }, { on := 4, ground := Ground.phase }, { on := 5, ground := Ground.phase }, { on := 6, ground := Ground.phase }, { on := 7, ground := Ground.phase }, { on := 8, ground := Ground.phase }, { on := 9, ground := Ground.phase }, { on := 10, ground := Ground.phase }], guard := none }) (v := ?_) rfl (by kernel_rfl) (by kernel_rfl) (by kernel_rfl) (fun _ _ _ h => h) (Or.inl ⟨by rfl, ?_⟩) (by assumption) ?_
            rotate_left
            · (intro wS hSw; (try dsimp only at hSw); go_simp; (try with_reducible rfl))
            try simp only [Act.put, List.setIfInBounds_toArray, List.set_cons_zero, List.set_cons_succ]
            refine wpAnyH_ready (rs := [12]) (by kernel_rfl) (by simp) ?_
            refine AllReadyH.cons (o := { dst := none, op := Op.store 42 (Operand.tmp 61) (Operand.tmp 60), type := 0, pos := "stroke.go:95", after := #[{ on := 11, ground := Ground.data }, { on := 10, ground := Ground.data }, { on := 10, ground := Ground.chain }, { on := 0, ground := Ground.phase }, { on := 1, ground := Ground.phase }, { on := 2, ground := Ground.phase }, { on := 3, ground := Ground.phase }, { on := 4, ground := Ground.phase }, { on := 5, ground := Ground.phase }, { on := 6, ground := Ground.phase }, { on := 7, ground := Ground.phase }, { on := 8, ground := Ground.phase }, { on := 9, ground := Ground.phase }, { on := 10, ground := Ground.phase }], guard := none }) rfl (fun K hK => ?_) AllReadyH.nil
            go_simp
            refine hK.out _ _ ?_ (fun hNew => ?_)
            · exact trivial
            clear hK K hHeld
            have hHeld := hNew
            clear hNew
            try simp only [Act.put, List.setIfInBounds_toArray, List.set_cons_zero, List.set_cons_succ]
            refine wpAnyH_done (by kernel_rfl) ?_ _
            refine NoPanic.normal ?_
            obtain ⟨wz, hwz, HZB, HZX, HZS, HZP⟩ := st1_facts (u := .slice A4 m4 c4) HXX HXS hPX0
            have HZZ := HXB.trans HZB
            have HZL := HZX.lt
            have HWZ := Lib.hid hwz
            clear hwz
            rw [← HWZ.out]
            clear HWZ
            by_cases hc1 : c2 = 4
            · subst hc1
              obtain rfl : bs = [] := by
                have := I10.out
                cases bs with
                | nil => rfl
                | cons y bs => simp at this; omega
              go_wp2_with fail
              go_step3
              exact (show ∃ m', m' < N ∧ JJ w0 (R0 b) 3 m' _ _ from ⟨_, (show 3 * 0 + 3 < N by omega), Or.inr (Or.inl ⟨rfl, J3.mk (b := []) (es := es) (ps := ps ++ [(a, cc, d, e)]) (h := h) (k := K) (left := left) ⟨hB.trans HZZ, HZL, Sl.nil_, h83, Lib.hid (show ([] : List Nat).length = 0 from rfl), Nat.le_refl _, Nat.zero_le _, Nat.zero_le _, HZS, hpl, HZX, Lib.hid ⟨hz.out.1, HKZ.out, hz.out.2.2.1, hz.out.2.2.2⟩, HZP, HXA, HXE, HPK.out, HEL.out, HR3, Nat.le_refl _⟩⟩)⟩)
            · have i13 : ¬ 4 = c2 := by omega
              go_wp2_with fail
              go_step3
              exact (show ∃ m', m' < N ∧ JJ w0 (R0 b) 3 m' _ _ from ⟨_, (show 3 * (nb - 4) + 3 < N by omega), Or.inr (Or.inl ⟨rfl, J3.mk (b := bs) (es := es) (ps := ps ++ [(a, cc, d, e)]) (h := h) (k := K) (left := left) ⟨hB.trans HZZ, HZL, HSL.below HZZ, h83, I10, i5, i7, i8, HZS, hpl, HZX, Lib.hid ⟨hz.out.1, HKZ.out, hz.out.2.2.1, hz.out.2.2.2⟩, HZP, HXA, HXE, HPK.out, HEL.out, HR3, Nat.le_refl _⟩⟩)⟩)

    · obtain ⟨b2, A, nb, c2, v, es, u, rfl, hB, hlt, hsl, h8, hbl, hbc, hcm2, hb1, hS, hpl, hel, hR, hn1⟩ := hJ
      refine ⟨_, (by simp only [findLabel, Nat.reduceBEq, if_true, if_false, Bool.false_eq_true]; rfl), ?_⟩
      by_cases hb0 : nb = 0
      · subst hb0
        obtain rfl : b2 = [] := List.eq_nil_of_length_eq_zero hbl.out
        obtain ⟨A2, c3, rfl, hsh⟩ := hS.sh
        have hme := smay_any es es.length A2 c3 wr rfl hsh (fun e he => by have := hpl.out e he; omega) (by omega)
        rcases (by cases hq : mayS (es.map Prod.fst) <;> simp : mayS (es.map Prod.fst) = true ∨ mayS (es.map Prod.fst) = false) with hm | hm
        all_goals rw [hm] at hme
        · go_wp2_with (go_at_call 18; ((with_reducible refine (hme).mono ?_); rintro e' wN ⟨rfl, hbN⟩; skip))
          refine jumpsQ_ret ?_
          go_ret2
          exact ⟨Or.inl ⟨_, es, by rw [rd_R0, ← hR.out]; unfold fin; simp [hm], (hS.below hbN).base (Nat.le_succ _), rfl⟩, btr hB (by omega) hbN⟩
        · go_wp2_with (go_at_call 18; ((with_reducible refine (hme).mono ?_); rintro e' wN ⟨rfl, hbN⟩; skip))
          go_step3
          exact (show ∃ m, m < N ∧ JJ w0 (R0 b) 0 m _ _ from ⟨0, by omega, Or.inr (Or.inr (Or.inr ⟨rfl, J0.mk ⟨btr hB (by omega) hbN, Lib.hid (by rw [← hR.out]; unfold fin; simp [hm])⟩⟩))⟩)
      · have i0 : ¬ (nb : Int) = 0 := by omega
        go_wp2
        go_step3
        exact (show ∃ m, m < N ∧ JJ w0 (R0 b) 0 m _ _ from ⟨0, by omega, Or.inr (Or.inr (Or.inr ⟨rfl, J0.mk ⟨hB, Lib.hid (by rw [← hR.out]; unfold fin; have := hbl.out; simp; intro h; rw [h] at this; simp at this; omega)⟩⟩))⟩)
    · obtain ⟨u, rfl, hB, hR⟩ := hJ
      refine ⟨_, (by simp only [findLabel, Nat.reduceBEq, if_true, if_false, Bool.false_eq_true]; rfl), ?_⟩
      go_wp2
      refine jumpsQ_ret ?_
      go_ret2
      exact ⟨Or.inr ⟨by rw [rd_R0, hR.out], rfl⟩, hB⟩
  · intro hcut
    have HC := Lib.hid hcut
    clear hcut
    by_cases h0 : n = 0
    · subst h0
      obtain rfl : b = [] := List.eq_nil_of_length_eq_zero HH.out.1
      go_wp2
      go_step3
      exact (show ∃ n, JJ w0 (R0 []) 0 n _ _ from ⟨0, Or.inr (Or.inr (Or.inr ⟨rfl, J0.mk ⟨HB1, Lib.hid rfl⟩⟩))⟩)
    · obtain ⟨x, bs, rfl⟩ : ∃ x bs, b = x :: bs := by
        cases b with
        | nil => exact absurd HH.out.1.symm h0
        | cons x bs => exact ⟨x, bs, rfl⟩
      obtain ⟨b1, o1, rfl, l1, q1⟩ := h.at_ (by simp)
      have z0 : w0.cell? ⟨b1, o1, none⟩ = some (.int .u8 (x : Int)) := q1 0 _ rfl
      have h8 : x < 256 ∧ Bytes8 bs := ⟨HH.out.2 x (by simp), fun y hy => HH.out.2 y (by simp [hy])⟩
      obtain ⟨h81, h82⟩ := h8
      have j1 : (0 : Int) ≤ (x : Int) := by omega
      have j2 : (x : Int) < 256 := by omega
      have j3 : IntKind.i64.wrap (x : Int) = (x : Int) := IntWalk.i64_in _ (by omega)
      have i0 : ¬ (n : Int) = 0 := by omega
      have i10 : bs.length = n - 1 := by have := HH.out.1; rw [List.length_cons] at this; omega
      have i7 : c - 1 ≤ maxLen := by omega
      have i8 : n - 1 ≤ 1000 := by omega
      have i9 : ([] : List (St × Value)).length + x ≤ 255 := by rw [List.length_nil]; omega
      have i1 : 1 ≤ n := by omega
      have HSL := (sl_tail h).below HB1
      have w1s : w0.heap.size < (w0.alloc (.cells #[.int .i64 0, .int .i64 0, .slice none 0 0] 44)).heap.size := HX.lt
      have z0 := (HB1.cell (p := ⟨b1, o1, none⟩) l1).trans z0
      have i2 : 0 < n := by omega
      have i3 : (1 : Int) ≤ (n : Int) := by omega
      have i4 : 1 ≤ c := by omega
      have i5 : n - 1 ≤ c - 1 := by omega
      by_cases hc1 : c = 1
      · subst hc1
        obtain rfl : bs = [] := by
          have := HH.out.1
          cases bs with
          | nil => rfl
          | cons y bs => simp at this; omega
        go_upto_region 5 with fail
        refine wp_region_noPanic ?_
        refine wp_region_held_drew (S := (fun w' => w'.cell? ⟨b1, o1, none⟩ = some (.int .u8 (x : Int)))) (by kernel_rfl) ?_ (fun hHeld => ?_)
        · (first | exact z0 | assumption)
        refine wpAnyH_take (i := 0) (oi := { dst := some 11, op := Op.move (Operand.tmp 0), type := 22, pos := "stroke.go:74", after := #[], guard := none }) (v := ?_) rfl (by kernel_rfl) (by kernel_rfl) (by kernel_rfl) (fun _ _ _ h => h) (Or.inl ⟨by rfl, ?_⟩) (by assumption) ?_
        rotate_left
        · (intro wS hSw; (try dsimp only at hSw); go_simp; (try with_reducible rfl))
        try simp only [Act.put, List.setIfInBounds_toArray, List.set_cons_zero, List.set_cons_succ]
        refine wpAnyH_take (i := 1) (oi := { dst := some 12, op := Op.indexAddr 22 (Operand.tmp 11) (Operand.const (Value.int IntKind.i64 0)), type := 0, pos := "stroke.go:74", after := #[{ on := 0, ground := Ground.data }], guard := none }) (v := ?_) rfl (by kernel_rfl) (by kernel_rfl) (by kernel_rfl) (fun _ _ _ h => h) (Or.inl ⟨by rfl, ?_⟩) (by assumption) ?_
        rotate_left
        · (intro wS hSw; (try dsimp only at hSw); go_simp; (try with_reducible rfl))
        try simp only [Act.put, List.setIfInBounds_toArray, List.set_cons_zero, List.set_cons_succ]
        refine wpAnyH_take (i := 2) (oi := { dst := some 13, op := Op.load 5 (Operand.tmp 12), type := 5, pos := "stroke.go:74", after := #[{ on := 1, ground := Ground.data }], guard := none }) (v := ?_) rfl (by kernel_rfl) (by kernel_rfl) (by kernel_rfl) (fun _ _ _ h => h) (Or.inl ⟨by rfl, ?_⟩) (by assumption) ?_
        rotate_left
        · (intro wS hSw; (try dsimp only at hSw); go_simp; (try with_reducible rfl))
        try simp only [Act.put, List.setIfInBounds_toArray, List.set_cons_zero, List.set_cons_succ]
        refine wpAnyH_take (i := 3) (oi := { dst := some 14, op := Op.convert 5 3 (Operand.tmp 13), type := 3, pos := "stroke.go:74", after := #[{ on := 2, ground := Ground.data }], guard := none }) (v := ?_) rfl (by kernel_rfl) (by kernel_rfl) (by kernel_rfl) (fun _ _ _ h => h) (Or.inl ⟨by rfl, ?_⟩) (by assumption) ?_
        rotate_left
        · (intro wS hSw; (try dsimp only at hSw); go_simp; (try with_reducible rfl))
        try simp only [Act.put, List.setIfInBounds_toArray, List.set_cons_zero, List.set_cons_succ]
        refine wpAnyH_take (i := 4) (oi := { dst := some 15, op := Op.move (Operand.tmp 0), type := 22, pos := "stroke.go:74", after := #[], guard := none }) (v := ?_) rfl (by kernel_rfl) (by kernel_rfl) (by kernel_rfl) (fun _ _ _ h => h) (Or.inl ⟨by rfl, ?_⟩) (by assumption) ?_
        rotate_left
        · (intro wS hSw; (try dsimp only at hSw); go_simp; (try with_reducible rfl))
        try simp only [Act.put, List.setIfInBounds_toArray, List.set_cons_zero, List.set_cons_succ]
        refine wpAnyH_take (i := 5) (oi := { dst := some 16, op := Op.slice 22 (Operand.tmp 15) (some (Operand.const (Value.int IntKind.i64 1))) none none, type := 22, pos := "stroke.go:74", after := #[{ on := 4, ground := Ground.data }], guard := none }) (v := ?_) rfl (by kernel_rfl) (by kernel_rfl) (by kernel_rfl) (fun _ _ _ h => h) (Or.inl ⟨by rfl, ?_⟩) (by assumption) ?_
        rotate_left
        · (intro wS hSw; (try dsimp only at hSw); go_simp; (try with_reducible rfl))
        try simp only [Act.put, List.setIfInBounds_toArray, List.set_cons_zero, List.set_cons_succ]
        refine wpAnyH_take (i := 6) (oi := { dst := some 6, op := Op.assign (Operand.tmp 14), type := 3, pos := "stroke.go:74", after := #[{ on := 3, ground := Ground.data }, { on := 0, ground := Ground.phase }, { on := 1, ground := Ground.phase }, { on := 2, ground := Ground.phase }, { on := 3, ground := Ground.phase }, { on := 4, ground := Ground.textOnly Departure.lateStores }, { on := 5, ground := Ground.textOnly Departure.lateStoresUnsure }], guard := none }) (v := ?_) rfl (by kernel_rfl) (by kernel_rfl) (by kernel_rfl) (fun _ _ _ h => h) (Or.inl ⟨by rfl, ?_⟩) (by assumption) ?_
        rotate_left
        · (intro wS hSw; (try dsimp only at hSw); go_simp; (try with_reducible rfl))
        try simp only [Act.put, List.setIfInBounds_toArray, List.set_cons_zero, List.set_cons_succ]
        refine wpAnyH_take (i := 7) (oi := { dst := some 0, op := Op.assign (Operand.tmp 16), type := 22, pos := "stroke.go:74", after := #[{ on := 5, ground := Ground.data }, { on := 6, ground := Ground.chain }, { on := 0, ground := Ground.phase }, { on := 1, ground := Ground.phase }, { on := 2, ground := Ground.phase }, { on := 3, ground := Ground.phase }, { on := 4, ground := Ground.phase }, { on := 5, ground := Ground.phase }, { on := 6, ground := Ground.phase }], guard := none }) (v := ?_) rfl (by kernel_rfl) (by kernel_rfl) (by kernel_rfl) (fun _ _ _ h => h) (Or.inl ⟨by rfl, ?_⟩) (by assumption) ?_
        rotate_left
        · (intro wS hSw; (try dsimp only at hSw); go_simp; (try with_reducible rfl))
        try simp only [Act.put, List.setIfInBounds_toArray, List.set_cons_zero, List.set_cons_succ]
        refine wpAnyH_done (by kernel_rfl) ?_ _
        refine NoPanic.normal ?_
        go_wp2_with fail
        rename_i K hK
        go_step3
        show K _ _
        refine hK _ _ ?_
        exact HC.out 2 _ _ _ (Or.inl ⟨rfl, J2.mk (b := []) (es := []) ⟨HB1.drew, w1s, Sl.nil_, h82, Lib.hid rfl, Nat.le_refl _, Nat.zero_le _, Nat.zero_le _, RowS.nil_ _ _, Lib.hid (by simp), HX, Lib.hid rfl, i9, Lib.hid rfl, Nat.le_refl _⟩⟩) _ (by kernel_rfl)

      · have i6 : ¬ 1 = c := by omega
        go_upto_region 5 with fail
        refine wp_region_noPanic ?_
        refine wp_region_held_drew (S := (fun w' => w'.cell? ⟨b1, o1, none⟩ = some (.int .u8 (x : Int)))) (by kernel_rfl) ?_ (fun hHeld => ?_)
        · (first | exact z0 | assumption)
        refine wpAnyH_take (i := 0) (oi := { dst := some 11, op := Op.move (Operand.tmp 0), type := 22, pos := "stroke.go:74", after := #[], guard := none }) (v := ?_) rfl (by kernel_rfl) (by kernel_rfl) (by kernel_rfl) (fun _ _ _ h => h) (Or.inl ⟨by rfl, ?_⟩) (by assumption) ?_
        rotate_left
        · (intro wS hSw; (try dsimp only at hSw); go_simp; (try with_reducible rfl))
        try simp only [Act.put, List.setIfInBounds_toArray, List.set_cons_zero, List.set_cons_succ]
        refine wpAnyH_take (i := 1) (oi := { dst := some 12, op := Op.indexAddr 22 (Operand.tmp 11) (Operand.const (Value.int IntKind.i64 0)), type := 0, pos := "stroke.go:74", after := #[{ on := 0, ground := Ground.data }], guard := none }) (v := ?_) rfl (by kernel_rfl) (by kernel_rfl) (by kernel_rfl) (fun _ _ _ h => h) (Or.inl ⟨by rfl, ?_⟩) (by assumption) ?_
        rotate_left
        · (intro wS hSw; (try dsimp only at hSw); go_simp; (try with_reducible rfl))
        try simp only [Act.put, List.setIfInBounds_toArray, List.set_cons_zero, List.set_cons_succ]
        refine wpAnyH_take (i := 2) (oi := { dst := some 13, op := Op.load 5 (Operand.tmp 12), type := 5, pos := "stroke.go:74", after := #[{ on := 1, ground := Ground.data }], guard := none }) (v := ?_) rfl (by kernel_rfl) (by kernel_rfl) (by kernel_rfl) (fun _ _ _ h => h) (Or.inl ⟨by rfl, ?_⟩) (by assumption) ?_
        rotate_left
        · (intro wS hSw; (try dsimp only at hSw); go_simp; (try with_reducible rfl))
        try simp only [Act.put, List.setIfInBounds_toArray, List.set_cons_zero, List.set_cons_succ]
        refine wpAnyH_take (i := 3) (oi := { dst := some 14, op := Op.convert 5 3 (Operand.tmp 13), type := 3, pos := "stroke.go:74", after := #[{ on := 2, ground := Ground.data }], guard := none }) (v := ?_) rfl (by kernel_rfl) (by kernel_rfl) (by kernel_rfl) (fun _ _ _ h => h) (Or.inl ⟨by rfl, ?_⟩) (by assumption) ?_
        rotate_left
        · (intro wS hSw; (try dsimp only at hSw); go_simp; (try with_reducible rfl))
        try simp only [Act.put, List.setIfInBounds_toArray, List.set_cons_zero, List.set_cons_succ]
        refine wpAnyH_take (i := 4) (oi := { dst := some 15, op := Op.move (Operand.tmp 0), type := 22, pos := "stroke.go:74", after := #[], guard := none }) (v := ?_) rfl (by kernel_rfl) (by kernel_rfl) (by kernel_rfl) (fun _ _ _ h => h) (Or.inl ⟨by rfl, ?_⟩) (by assumption) ?_
        rotate_left
        · (intro wS hSw; (try dsimp only at hSw); go_simp; (try with_reducible rfl))
        try simp only [Act.put, List.setIfInBounds_toArray, List.set_cons_zero, List.set_cons_succ]
        refine wpAnyH_take (i := 5) (oi := { dst := some 16, op := Op.slice 22 (Operand.tmp 15) (some (Operand.const (Value.int IntKind.i64 1))) none none, type := 22, pos := "stroke.go:74", after := #[{ on := 4, ground := Ground.data }], guard := none }) (v := ?_) rfl (by kernel_rfl) (by kernel_rfl) (by kernel_rfl) (fun _ _ _ h => h) (Or.inl ⟨by rfl, ?_⟩) (by assumption) ?_
        rotate_left
        · (intro wS hSw; (try dsimp only at hSw); go_simp; (try with_reducible rfl))
        try simp only [Act.put, List.setIfInBounds_toArray, List.set_cons_zero, List.set_cons_succ]
        refine wpAnyH_take (i := 6) (oi := { dst := some 6, op := Op.assign (Operand.tmp 14), type := 3, pos := "stroke.go:74", after := #[{ on := 3, ground := Ground.data }, { on := 0, ground := Ground.phase }, { on := 1, ground := Ground.phase }, { on := 2, ground := Ground.phase }, { on := 3, ground := Ground.phase }, { on := 4, ground := Ground.textOnly Departure.lateStores }, { on := 5, ground := Ground.textOnly Departure.lateStoresUnsure }], guard := none }) (v := ?_) rfl (by kernel_rfl) (by kernel_rfl) (by kernel_rfl) (fun _ _ _ h => h) (Or.inl ⟨by rfl, ?_⟩) (by assumption) ?_
        rotate_left
        · (intro wS hSw; (try dsimp only at hSw); go_simp; (try with_reducible rfl))
        try simp only [Act.put, List.setIfInBounds_toArray, List.set_cons_zero, List.set_cons_succ]
        refine wpAnyH_take (i := 7) (oi := { dst := some 0, op := Op.assign (Operand.tmp 16), type := 22, pos := "stroke.go:74", after := #[{ on := 5, ground := Ground.data }, { on := 6, ground := Ground.chain }, { on := 0, ground := Ground.phase }, { on := 1, ground := Ground.phase }, { on := 2, ground := Ground.phase }, { on := 3, ground := Ground.phase }, { on := 4, ground := Ground.phase }, { on := 5, ground := Ground.phase }, { on := 6, ground := Ground.phase }], guard := none }) (v := ?_) rfl (by kernel_rfl) (by kernel_rfl) (by kernel_rfl) (fun _ _ _ h => h) (Or.inl ⟨by rfl, ?_⟩) (by assumption) ?_
        rotate_left
        · (intro wS hSw; (try dsimp only at hSw); go_simp; (try with_reducible rfl))
        try simp only [Act.put, List.setIfInBounds_toArray, List.set_cons_zero, List.set_cons_succ]
        refine wpAnyH_done (by kernel_rfl) ?_ _
        refine NoPanic.normal ?_
        go_wp2_with fail
        rename_i K hK
        go_step3
        show K _ _
        refine hK _ _ ?_
        exact HC.out 2 _ _ _ (Or.inl ⟨rfl, J2.mk (b := bs) (es := []) ⟨HB1.drew, w1s, HSL, h82, Lib.hid i10, i5, i7, i8, RowS.nil_ _ _, Lib.hid (by simp), HX, Lib.hid rfl, i9, Lib.hid rfl, Nat.le_refl _⟩⟩) _ (by kernel_rfl)

end Go.Proofs.Ytmnfikfncbppfaa
