/- coding.Read. -/
import Derived.Test.YtllnfociddodcaaDoorCz2
import Derived.Test.YtllnfociddodcaaDoorCz1
import Derived.Deep.RegionHeld3
import Derived.Deep.DrawnRows
import Derived.Deep.DeepCutAuto
import Derived.Test.YtllnfociddodcaaDoorRows
import Derived.SevenTiedAt
import Derived.LaidHandle
import Derived.Lib.LaidIn
import Derived.Lib.LaidU8T
import Derived.PinnedBridge
import Derived.ChangeMaps5
set_option linter.unusedSimpArgs false
set_option linter.unusedVariables false
set_option maxRecDepth 100000
set_option maxHeartbeats 16000000
namespace Go.Proofs.YtllnfociddodcaaDoor
open Go.ChangeShapes Go.WideShapes Go.ChangeAt Go.RowKit
attribute [local go_sem ↓] Go.wp_at_zero Go.wp_at_succ
attribute [local go_sem ↓] Go.wp_at_zero Go.wp_at_succ
def NbX (w0 wr : World) : Prop := ∃ x0 x1 x2 x3 x4, Blk wr (w0.heap.size + 2) 52 #[x0, x1, x2, x3, x4]
theorem NbX.row {w0 wr w' : World} {row : Option Nat} (h : NbX w0 wr) (hg : wr.grownBy w' row) (hne : row ≠ some (w0.heap.size + 2)) : NbX w0 w' := by
  obtain ⟨x0, x1, x2, x3, x4, h⟩ := h
  exact ⟨x0, x1, x2, x3, x4, h.grownR hg hne⟩
theorem NbX.below {w0 wr w' : World} (h : NbX w0 wr) (hb : Below wr.heap.size wr w') : NbX w0 w' := by
  obtain ⟨x0, x1, x2, x3, x4, h⟩ := h
  exact ⟨x0, x1, x2, x3, x4, h.below hb h.lt⟩
theorem NbX.call {w0 wr w' : World} (h : NbX w0 wr) (hg : wr.grownBy w' (some (w0.heap.size + 3))) : NbX w0 w' := h.row hg (fun e => by injection e; omega)
theorem NbX.one {w0 wr w' : World} {k : Nat} (h : NbX w0 wr) (hg : wr.grownBy w' (some k)) (hk : k = w0.heap.size + 1) : NbX w0 w' := h.row hg (fun e => by injection e; omega)
def J1 (w0 : World) (F : Sf × Rr) (n : Nat) (a : Act) (wr : World) : Prop := ∃ (k : Nat) (s : Sf) (vb vn : Value) (es : List (List Value)) (r : Rr) (kz : Int) (u : Nat → Value), a = { tmps := #[u 0, u 1, .pointer (some ⟨w0.heap.size, 0, none⟩), u 3, .pointer (some ⟨w0.heap.size + 1, 0, none⟩), .pointer (some ⟨w0.heap.size + 2, 0, none⟩), .int .i64 kz, u 7, u 8, u 9, .pointer (some ⟨w0.heap.size + 3, 0, none⟩), u 11, u 12, u 13, u 14, u 15, u 16, u 17, u 18, u 19, u 20, u 21, u 22, u 23, u 24, u 25, u 26, u 27, u 28, u 29, u 30, u 31, u 32, u 33, u 34, u 35, u 36, u 37, u 38, u 39, u 40, u 41, u 42, u 43, u 44, u 45, u 46, u 47, u 48, u 49, u 50, u 51, u 52, u 53, u 54, u 55, u 56, u 57, u 58, u 59, u 60, u 61, u 62, u 63, u 64, u 65, u 66, u 67, u 68, u 69, u 70, u 71, u 72, u 73, u 74, u 75, u 76, u 77, u 78, u 79, u 80, u 81, u 82, u 83, u 84, u 85, u 86, u 87, u 88, u 89, u 90, u 91, u 92, u 93, u 94, u 95, u 96, u 97, u 98, u 99, u 100, u 101, u 102], defers := [] } ∧ RdM w0 wr s vb vn es r ∧ NbX w0 wr ∧ Hid (kz = (k : Int)) ∧ Hid (k + s.bs.length ≤ 255 ∧ s.ts = []) ∧ Hid (conB k s r = F) ∧ 153600 + k + 2 ≤ n
theorem J1.mk {w0 : World} {F : Sf × Rr} {n : Nat} {wr : World} {k : Nat} {s : Sf} {vb vn : Value} {es : List (List Value)} {r : Rr} {kz : Int} {u0 u1 u3 u7 u8 u9 u11 u12 u13 u14 u15 u16 u17 u18 u19 u20 u21 u22 u23 u24 u25 u26 u27 u28 u29 u30 u31 u32 u33 u34 u35 u36 u37 u38 u39 u40 u41 u42 u43 u44 u45 u46 u47 u48 u49 u50 u51 u52 u53 u54 u55 u56 u57 u58 u59 u60 u61 u62 u63 u64 u65 u66 u67 u68 u69 u70 u71 u72 u73 u74 u75 u76 u77 u78 u79 u80 u81 u82 u83 u84 u85 u86 u87 u88 u89 u90 u91 u92 u93 u94 u95 u96 u97 u98 u99 u100 u101 u102 : Value} (hh : RdM w0 wr s vb vn es r ∧ NbX w0 wr ∧ Hid (kz = (k : Int)) ∧ Hid (k + s.bs.length ≤ 255 ∧ s.ts = []) ∧ Hid (conB k s r = F) ∧ 153600 + k + 2 ≤ n) : J1 w0 F n { tmps := #[u0, u1, .pointer (some ⟨w0.heap.size, 0, none⟩), u3, .pointer (some ⟨w0.heap.size + 1, 0, none⟩), .pointer (some ⟨w0.heap.size + 2, 0, none⟩), .int .i64 kz, u7, u8, u9, .pointer (some ⟨w0.heap.size + 3, 0, none⟩), u11, u12, u13, u14, u15, u16, u17, u18, u19, u20, u21, u22, u23, u24, u25, u26, u27, u28, u29, u30, u31, u32, u33, u34, u35, u36, u37, u38, u39, u40, u41, u42, u43, u44, u45, u46, u47, u48, u49, u50, u51, u52, u53, u54, u55, u56, u57, u58, u59, u60, u61, u62, u63, u64, u65, u66, u67, u68, u69, u70, u71, u72, u73, u74, u75, u76, u77, u78, u79, u80, u81, u82, u83, u84, u85, u86, u87, u88, u89, u90, u91, u92, u93, u94, u95, u96, u97, u98, u99, u100, u101, u102], defers := [] } wr :=
  ⟨k, s, vb, vn, es, r, kz, fun i => (#[u0, u1, undef, u3, undef, undef, undef, u7, u8, u9, undef, u11, u12, u13, u14, u15, u16, u17, u18, u19, u20, u21, u22, u23, u24, u25, u26, u27, u28, u29, u30, u31, u32, u33, u34, u35, u36, u37, u38, u39, u40, u41, u42, u43, u44, u45, u46, u47, u48, u49, u50, u51, u52, u53, u54, u55, u56, u57, u58, u59, u60, u61, u62, u63, u64, u65, u66, u67, u68, u69, u70, u71, u72, u73, u74, u75, u76, u77, u78, u79, u80, u81, u82, u83, u84, u85, u86, u87, u88, u89, u90, u91, u92, u93, u94, u95, u96, u97, u98, u99, u100, u101, u102] : Array Value).getD i undef, rfl, hh⟩
def J0 (w0 : World) (F : Sf × Rr) (n : Nat) (a : Act) (wr : World) : Prop := ∃ (j : Nat) (s : Sf) (vb vn : Value) (es : List (List Value)) (r : Rr) (jz : Int) (u : Nat → Value), a = { tmps := #[u 0, u 1, .pointer (some ⟨w0.heap.size, 0, none⟩), u 3, .pointer (some ⟨w0.heap.size + 1, 0, none⟩), .pointer (some ⟨w0.heap.size + 2, 0, none⟩), u 6, .int .i64 jz, u 8, u 9, .pointer (some ⟨w0.heap.size + 3, 0, none⟩), u 11, u 12, u 13, u 14, u 15, u 16, u 17, u 18, u 19, u 20, u 21, u 22, u 23, u 24, u 25, u 26, u 27, u 28, u 29, u 30, u 31, u 32, u 33, u 34, u 35, u 36, u 37, u 38, u 39, u 40, u 41, u 42, u 43, u 44, u 45, u 46, u 47, u 48, u 49, u 50, u 51, u 52, u 53, u 54, u 55, u 56, u 57, u 58, u 59, u 60, u 61, u 62, u 63, u 64, u 65, u 66, u 67, u 68, u 69, u 70, u 71, u 72, u 73, u 74, u 75, u 76, u 77, u 78, u 79, u 80, u 81, u 82, u 83, u 84, u 85, u 86, u 87, u 88, u 89, u 90, u 91, u 92, u 93, u 94, u 95, u 96, u 97, u 98, u 99, u 100, u 101, u 102], defers := [] } ∧ RdM w0 wr s vb vn es r ∧ NbX w0 wr ∧ Hid (jz = (j : Int)) ∧ Hid (j + s.ts.length ≤ 255) ∧ Hid (conN j s r = F) ∧ 600 * j + 1 ≤ n
theorem J0.mk {w0 : World} {F : Sf × Rr} {n : Nat} {wr : World} {j : Nat} {s : Sf} {vb vn : Value} {es : List (List Value)} {r : Rr} {jz : Int} {u0 u1 u3 u6 u8 u9 u11 u12 u13 u14 u15 u16 u17 u18 u19 u20 u21 u22 u23 u24 u25 u26 u27 u28 u29 u30 u31 u32 u33 u34 u35 u36 u37 u38 u39 u40 u41 u42 u43 u44 u45 u46 u47 u48 u49 u50 u51 u52 u53 u54 u55 u56 u57 u58 u59 u60 u61 u62 u63 u64 u65 u66 u67 u68 u69 u70 u71 u72 u73 u74 u75 u76 u77 u78 u79 u80 u81 u82 u83 u84 u85 u86 u87 u88 u89 u90 u91 u92 u93 u94 u95 u96 u97 u98 u99 u100 u101 u102 : Value} (hh : RdM w0 wr s vb vn es r ∧ NbX w0 wr ∧ Hid (jz = (j : Int)) ∧ Hid (j + s.ts.length ≤ 255) ∧ Hid (conN j s r = F) ∧ 600 * j + 1 ≤ n) : J0 w0 F n { tmps := #[u0, u1, .pointer (some ⟨w0.heap.size, 0, none⟩), u3, .pointer (some ⟨w0.heap.size + 1, 0, none⟩), .pointer (some ⟨w0.heap.size + 2, 0, none⟩), u6, .int .i64 jz, u8, u9, .pointer (some ⟨w0.heap.size + 3, 0, none⟩), u11, u12, u13, u14, u15, u16, u17, u18, u19, u20, u21, u22, u23, u24, u25, u26, u27, u28, u29, u30, u31, u32, u33, u34, u35, u36, u37, u38, u39, u40, u41, u42, u43, u44, u45, u46, u47, u48, u49, u50, u51, u52, u53, u54, u55, u56, u57, u58, u59, u60, u61, u62, u63, u64, u65, u66, u67, u68, u69, u70, u71, u72, u73, u74, u75, u76, u77, u78, u79, u80, u81, u82, u83, u84, u85, u86, u87, u88, u89, u90, u91, u92, u93, u94, u95, u96, u97, u98, u99, u100, u101, u102], defers := [] } wr :=
  ⟨j, s, vb, vn, es, r, jz, fun i => (#[u0, u1, undef, u3, undef, undef, u6, undef, u8, u9, undef, u11, u12, u13, u14, u15, u16, u17, u18, u19, u20, u21, u22, u23, u24, u25, u26, u27, u28, u29, u30, u31, u32, u33, u34, u35, u36, u37, u38, u39, u40, u41, u42, u43, u44, u45, u46, u47, u48, u49, u50, u51, u52, u53, u54, u55, u56, u57, u58, u59, u60, u61, u62, u63, u64, u65, u66, u67, u68, u69, u70, u71, u72, u73, u74, u75, u76, u77, u78, u79, u80, u81, u82, u83, u84, u85, u86, u87, u88, u89, u90, u91, u92, u93, u94, u95, u96, u97, u98, u99, u100, u101, u102] : Array Value).getD i undef, rfl, hh⟩
def J4 (w0 : World) (F : Sf × Rr) (n : Nat) (a : Act) (wr : World) : Prop := ∃ (j k : Nat) (s : Sf) (h : Nt) (vt : Value) (vb vn : Value) (es : List (List Value)) (r : Rr) (jz kz : Int) (u : Nat → Value), a = { tmps := #[u 0, u 1, .pointer (some ⟨w0.heap.size, 0, none⟩), u 3, .pointer (some ⟨w0.heap.size + 1, 0, none⟩), .pointer (some ⟨w0.heap.size + 2, 0, none⟩), u 6, .int .i64 jz, .int .i64 kz, u 9, .pointer (some ⟨w0.heap.size + 3, 0, none⟩), u 11, u 12, u 13, u 14, u 15, u 16, u 17, u 18, u 19, u 20, u 21, u 22, u 23, u 24, u 25, u 26, u 27, u 28, u 29, u 30, u 31, u 32, u 33, u 34, u 35, u 36, u 37, u 38, u 39, u 40, u 41, u 42, u 43, u 44, u 45, u 46, u 47, u 48, u 49, u 50, u 51, u 52, u 53, u 54, u 55, u 56, u 57, u 58, u 59, u 60, u 61, u 62, u 63, u 64, u 65, u 66, u 67, u 68, u 69, u 70, u 71, u 72, u 73, u 74, u 75, u 76, u 77, u 78, u 79, u 80, u 81, u 82, u 83, u 84, u 85, u 86, u 87, u 88, u 89, u 90, u 91, u 92, u 93, u 94, u 95, u 96, u 97, u 98, u 99, u 100, u 101, u 102], defers := [] } ∧ RdM w0 wr s vb vn es r ∧ NbM w0 wr h vt (.slice none 0 0) es ∧ Hid (jz = (j : Int) ∧ kz = (k : Int)) ∧ Hid (j + s.ts.length + 1 ≤ 255 ∧ k + h.tg.length ≤ 255 ∧ h.sh = []) ∧ Hid (conT j s h k r = F) ∧ 600 * j + 300 + k ≤ n
theorem J4.mk {w0 : World} {F : Sf × Rr} {n : Nat} {wr : World} {j k : Nat} {s : Sf} {h : Nt} {vt : Value} {vb vn : Value} {es : List (List Value)} {r : Rr} {jz kz : Int} {u0 u1 u3 u6 u9 u11 u12 u13 u14 u15 u16 u17 u18 u19 u20 u21 u22 u23 u24 u25 u26 u27 u28 u29 u30 u31 u32 u33 u34 u35 u36 u37 u38 u39 u40 u41 u42 u43 u44 u45 u46 u47 u48 u49 u50 u51 u52 u53 u54 u55 u56 u57 u58 u59 u60 u61 u62 u63 u64 u65 u66 u67 u68 u69 u70 u71 u72 u73 u74 u75 u76 u77 u78 u79 u80 u81 u82 u83 u84 u85 u86 u87 u88 u89 u90 u91 u92 u93 u94 u95 u96 u97 u98 u99 u100 u101 u102 : Value} (hh : RdM w0 wr s vb vn es r ∧ NbM w0 wr h vt (.slice none 0 0) es ∧ Hid (jz = (j : Int) ∧ kz = (k : Int)) ∧ Hid (j + s.ts.length + 1 ≤ 255 ∧ k + h.tg.length ≤ 255 ∧ h.sh = []) ∧ Hid (conT j s h k r = F) ∧ 600 * j + 300 + k ≤ n) : J4 w0 F n { tmps := #[u0, u1, .pointer (some ⟨w0.heap.size, 0, none⟩), u3, .pointer (some ⟨w0.heap.size + 1, 0, none⟩), .pointer (some ⟨w0.heap.size + 2, 0, none⟩), u6, .int .i64 jz, .int .i64 kz, u9, .pointer (some ⟨w0.heap.size + 3, 0, none⟩), u11, u12, u13, u14, u15, u16, u17, u18, u19, u20, u21, u22, u23, u24, u25, u26, u27, u28, u29, u30, u31, u32, u33, u34, u35, u36, u37, u38, u39, u40, u41, u42, u43, u44, u45, u46, u47, u48, u49, u50, u51, u52, u53, u54, u55, u56, u57, u58, u59, u60, u61, u62, u63, u64, u65, u66, u67, u68, u69, u70, u71, u72, u73, u74, u75, u76, u77, u78, u79, u80, u81, u82, u83, u84, u85, u86, u87, u88, u89, u90, u91, u92, u93, u94, u95, u96, u97, u98, u99, u100, u101, u102], defers := [] } wr :=
  ⟨j, k, s, h, vt, vb, vn, es, r, jz, kz, fun i => (#[u0, u1, undef, u3, undef, undef, u6, undef, undef, u9, undef, u11, u12, u13, u14, u15, u16, u17, u18, u19, u20, u21, u22, u23, u24, u25, u26, u27, u28, u29, u30, u31, u32, u33, u34, u35, u36, u37, u38, u39, u40, u41, u42, u43, u44, u45, u46, u47, u48, u49, u50, u51, u52, u53, u54, u55, u56, u57, u58, u59, u60, u61, u62, u63, u64, u65, u66, u67, u68, u69, u70, u71, u72, u73, u74, u75, u76, u77, u78, u79, u80, u81, u82, u83, u84, u85, u86, u87, u88, u89, u90, u91, u92, u93, u94, u95, u96, u97, u98, u99, u100, u101, u102] : Array Value).getD i undef, rfl, hh⟩
def J3 (w0 : World) (F : Sf × Rr) (n : Nat) (a : Act) (wr : World) : Prop := ∃ (j k : Nat) (s : Sf) (h : Nt) (vt vs : Value) (vb vn : Value) (es : List (List Value)) (r : Rr) (jz kz : Int) (u : Nat → Value), a = { tmps := #[u 0, u 1, .pointer (some ⟨w0.heap.size, 0, none⟩), u 3, .pointer (some ⟨w0.heap.size + 1, 0, none⟩), .pointer (some ⟨w0.heap.size + 2, 0, none⟩), u 6, .int .i64 jz, u 8, .int .i64 kz, .pointer (some ⟨w0.heap.size + 3, 0, none⟩), u 11, u 12, u 13, u 14, u 15, u 16, u 17, u 18, u 19, u 20, u 21, u 22, u 23, u 24, u 25, u 26, u 27, u 28, u 29, u 30, u 31, u 32, u 33, u 34, u 35, u 36, u 37, u 38, u 39, u 40, u 41, u 42, u 43, u 44, u 45, u 46, u 47, u 48, u 49, u 50, u 51, u 52, u 53, u 54, u 55, u 56, u 57, u 58, u 59, u 60, u 61, u 62, u 63, u 64, u 65, u 66, u 67, u 68, u 69, u 70, u 71, u 72, u 73, u 74, u 75, u 76, u 77, u 78, u 79, u 80, u 81, u 82, u 83, u 84, u 85, u 86, u 87, u 88, u 89, u 90, u 91, u 92, u 93, u 94, u 95, u 96, u 97, u 98, u 99, u 100, u 101, u 102], defers := [] } ∧ RdM w0 wr s vb vn es r ∧ NbM w0 wr h vt vs es ∧ Hid (jz = (j : Int) ∧ kz = (k : Int)) ∧ Hid (j + s.ts.length + 1 ≤ 255 ∧ k + h.sh.length ≤ 255) ∧ Hid (conS j s h k r = F) ∧ 600 * j + 2 + k ≤ n
theorem J3.mk {w0 : World} {F : Sf × Rr} {n : Nat} {wr : World} {j k : Nat} {s : Sf} {h : Nt} {vt vs : Value} {vb vn : Value} {es : List (List Value)} {r : Rr} {jz kz : Int} {u0 u1 u3 u6 u8 u11 u12 u13 u14 u15 u16 u17 u18 u19 u20 u21 u22 u23 u24 u25 u26 u27 u28 u29 u30 u31 u32 u33 u34 u35 u36 u37 u38 u39 u40 u41 u42 u43 u44 u45 u46 u47 u48 u49 u50 u51 u52 u53 u54 u55 u56 u57 u58 u59 u60 u61 u62 u63 u64 u65 u66 u67 u68 u69 u70 u71 u72 u73 u74 u75 u76 u77 u78 u79 u80 u81 u82 u83 u84 u85 u86 u87 u88 u89 u90 u91 u92 u93 u94 u95 u96 u97 u98 u99 u100 u101 u102 : Value} (hh : RdM w0 wr s vb vn es r ∧ NbM w0 wr h vt vs es ∧ Hid (jz = (j : Int) ∧ kz = (k : Int)) ∧ Hid (j + s.ts.length + 1 ≤ 255 ∧ k + h.sh.length ≤ 255) ∧ Hid (conS j s h k r = F) ∧ 600 * j + 2 + k ≤ n) : J3 w0 F n { tmps := #[u0, u1, .pointer (some ⟨w0.heap.size, 0, none⟩), u3, .pointer (some ⟨w0.heap.size + 1, 0, none⟩), .pointer (some ⟨w0.heap.size + 2, 0, none⟩), u6, .int .i64 jz, u8, .int .i64 kz, .pointer (some ⟨w0.heap.size + 3, 0, none⟩), u11, u12, u13, u14, u15, u16, u17, u18, u19, u20, u21, u22, u23, u24, u25, u26, u27, u28, u29, u30, u31, u32, u33, u34, u35, u36, u37, u38, u39, u40, u41, u42, u43, u44, u45, u46, u47, u48, u49, u50, u51, u52, u53, u54, u55, u56, u57, u58, u59, u60, u61, u62, u63, u64, u65, u66, u67, u68, u69, u70, u71, u72, u73, u74, u75, u76, u77, u78, u79, u80, u81, u82, u83, u84, u85, u86, u87, u88, u89, u90, u91, u92, u93, u94, u95, u96, u97, u98, u99, u100, u101, u102], defers := [] } wr :=
  ⟨j, k, s, h, vt, vs, vb, vn, es, r, jz, kz, fun i => (#[u0, u1, undef, u3, undef, undef, u6, undef, u8, undef, undef, u11, u12, u13, u14, u15, u16, u17, u18, u19, u20, u21, u22, u23, u24, u25, u26, u27, u28, u29, u30, u31, u32, u33, u34, u35, u36, u37, u38, u39, u40, u41, u42, u43, u44, u45, u46, u47, u48, u49, u50, u51, u52, u53, u54, u55, u56, u57, u58, u59, u60, u61, u62, u63, u64, u65, u66, u67, u68, u69, u70, u71, u72, u73, u74, u75, u76, u77, u78, u79, u80, u81, u82, u83, u84, u85, u86, u87, u88, u89, u90, u91, u92, u93, u94, u95, u96, u97, u98, u99, u100, u101, u102] : Array Value).getD i undef, rfl, hh⟩
def J2 (w0 : World) (F : Sf × Rr) (n : Nat) (a : Act) (wr : World) : Prop := ∃ (s : Sf) (vb vn : Value) (es : List (List Value)) (r : Rr) (u : Nat → Value), a = { tmps := #[u 0, u 1, .pointer (some ⟨w0.heap.size, 0, none⟩), u 3, .pointer (some ⟨w0.heap.size + 1, 0, none⟩), .pointer (some ⟨w0.heap.size + 2, 0, none⟩), u 6, u 7, u 8, u 9, .pointer (some ⟨w0.heap.size + 3, 0, none⟩), u 11, u 12, u 13, u 14, u 15, u 16, u 17, u 18, u 19, u 20, u 21, u 22, u 23, u 24, u 25, u 26, u 27, u 28, u 29, u 30, u 31, u 32, u 33, u 34, u 35, u 36, u 37, u 38, u 39, u 40, u 41, u 42, u 43, u 44, u 45, u 46, u 47, u 48, u 49, u 50, u 51, u 52, u 53, u 54, u 55, u 56, u 57, u 58, u 59, u 60, u 61, u 62, u 63, u 64, u 65, u 66, u 67, u 68, u 69, u 70, u 71, u 72, u 73, u 74, u 75, u 76, u 77, u 78, u 79, u 80, u 81, u 82, u 83, u 84, u 85, u 86, u 87, u 88, u 89, u 90, u 91, u 92, u 93, u 94, u 95, u 96, u 97, u 98, u 99, u 100, u 101, u 102], defers := [] } ∧ RdM w0 wr s vb vn es r ∧ Hid ((s, r) = F)
theorem J2.mk {w0 : World} {F : Sf × Rr} {n : Nat} {wr : World} {s : Sf} {vb vn : Value} {es : List (List Value)} {r : Rr} {u0 u1 u3 u6 u7 u8 u9 u11 u12 u13 u14 u15 u16 u17 u18 u19 u20 u21 u22 u23 u24 u25 u26 u27 u28 u29 u30 u31 u32 u33 u34 u35 u36 u37 u38 u39 u40 u41 u42 u43 u44 u45 u46 u47 u48 u49 u50 u51 u52 u53 u54 u55 u56 u57 u58 u59 u60 u61 u62 u63 u64 u65 u66 u67 u68 u69 u70 u71 u72 u73 u74 u75 u76 u77 u78 u79 u80 u81 u82 u83 u84 u85 u86 u87 u88 u89 u90 u91 u92 u93 u94 u95 u96 u97 u98 u99 u100 u101 u102 : Value} (hh : RdM w0 wr s vb vn es r ∧ Hid ((s, r) = F)) : J2 w0 F n { tmps := #[u0, u1, .pointer (some ⟨w0.heap.size, 0, none⟩), u3, .pointer (some ⟨w0.heap.size + 1, 0, none⟩), .pointer (some ⟨w0.heap.size + 2, 0, none⟩), u6, u7, u8, u9, .pointer (some ⟨w0.heap.size + 3, 0, none⟩), u11, u12, u13, u14, u15, u16, u17, u18, u19, u20, u21, u22, u23, u24, u25, u26, u27, u28, u29, u30, u31, u32, u33, u34, u35, u36, u37, u38, u39, u40, u41, u42, u43, u44, u45, u46, u47, u48, u49, u50, u51, u52, u53, u54, u55, u56, u57, u58, u59, u60, u61, u62, u63, u64, u65, u66, u67, u68, u69, u70, u71, u72, u73, u74, u75, u76, u77, u78, u79, u80, u81, u82, u83, u84, u85, u86, u87, u88, u89, u90, u91, u92, u93, u94, u95, u96, u97, u98, u99, u100, u101, u102], defers := [] } wr :=
  ⟨s, vb, vn, es, r, fun i => (#[u0, u1, undef, u3, undef, undef, u6, u7, u8, u9, undef, u11, u12, u13, u14, u15, u16, u17, u18, u19, u20, u21, u22, u23, u24, u25, u26, u27, u28, u29, u30, u31, u32, u33, u34, u35, u36, u37, u38, u39, u40, u41, u42, u43, u44, u45, u46, u47, u48, u49, u50, u51, u52, u53, u54, u55, u56, u57, u58, u59, u60, u61, u62, u63, u64, u65, u66, u67, u68, u69, u70, u71, u72, u73, u74, u75, u76, u77, u78, u79, u80, u81, u82, u83, u84, u85, u86, u87, u88, u89, u90, u91, u92, u93, u94, u95, u96, u97, u98, u99, u100, u101, u102] : Array Value).getD i undef, rfl, hh⟩
def JJ (w0 : World) (F : Sf × Rr) (l n : Nat) (a : Act) (wr : World) : Prop :=
  (l = 1 ∧ J1 w0 F n a wr) ∨ (l = 0 ∧ J0 w0 F n a wr) ∨ (l = 4 ∧ J4 w0 F n a wr) ∨ (l = 3 ∧ J3 w0 F n a wr) ∨ (l = 2 ∧ J2 w0 F n a wr)
def RdA (w0 : World) (b : List Nat) (e' : Ending) (w' : World) : Prop := ∃ v, e' = .returned (.tuple #[v, .int .i64 (cond (okR b) 0 5)]) ∧ ShW w' w0.heap.size v (cond (okR b) (rAll b).1 ⟨0, 0, 0, [], []⟩)
theorem nmb1_lt {r : Rr} (h : Bytes8 r.1) : (nmb 1 r).1 ≤ 255 := by
  have hb8 := (tk_8 (n := 1) h).1
  have h1 := numB_lt hb8 (Nat.le_refl _)
  rw [List.take_of_length_le (Nat.le_refl _)] at h1
  have h2 := tk_len 1 r
  have h3 : 256 ^ (tkR 1 r).1.length ≤ 256 ^ 1 := Nat.pow_le_pow_right (by decide) h2
  have h4 : (nmb 1 r).1 = numB (tkR 1 r).1 := rfl
  omega
theorem RdM.three {w0 wr : World} {vb vn : Value} {r : Rr} (h : RdM w0 wr ⟨0, 0, 0, [], []⟩ vb vn [] r) (a b c : Int) :
    ∃ wz, wz = ((wr.setCell ⟨w0.heap.size + 1, 0, none⟩ (.int .i64 a)).setCell ⟨w0.heap.size + 1, 1, none⟩ (.int .i64 b)).setCell ⟨w0.heap.size + 1, 2, none⟩ (.int .i64 c) ∧ RdM w0 wz ⟨a, b, c, [], []⟩ vb vn [] r ∧ wr.grownBy wz (some (w0.heap.size + 1)) := by
  have hg : wr.grownBy (((wr.setCell ⟨w0.heap.size + 1, 0, none⟩ (.int .i64 a)).setCell ⟨w0.heap.size + 1, 1, none⟩ (.int .i64 b)).setCell ⟨w0.heap.size + 1, 2, none⟩ (.int .i64 c)) (some (w0.heap.size + 1)) := grown_set (grown_set (set1_grown _ _ _ _) _ _) _ _
  have B1 := ((h.sb.set_ 0 (.int .i64 a)).set_ 1 (.int .i64 b)).set_ 2 (.int .i64 c)
  simp at B1
  have hlt : w0.heap.size + 1 < w0.heap.size + 4 := by omega
  exact ⟨_, rfl, ⟨h.hB.grown hg (Nat.le_trans (Nat.le_add_right _ 4) h.size) (fun k e => by cases e; omega), h.zb.grownR hg (fun e => by injection e; omega), B1, h.rp.row hg (Nat.le_add_right _ 3) (fun k e => by cases e; omega) (fun e => by injection e; omega), h.bk.far hg hlt, h.el, World.ownsRow.kept h.on hg (own_off h.on hlt), fun k n e a c => by simp at c⟩, hg⟩
theorem RdM.start (w0 : World) (b : List Nat) (n : Nat) (A : Option Addr) (c : Nat) (hn : b.length = n) (h : Sl w0 w0.heap.size A (b.map byteV)) (h8 : Bytes8 b) (hc : n ≤ c) (hcm : c ≤ maxLen) (n1 : n ≤ 100000) (hA : A = none → c = 0) :
    ∃ wz, wz = (((w0.alloc (.cells #[.int .i64 0, .int .i64 0, .int .i64 0, .slice none 0 0, .slice none 0 0] 25)).alloc (.cells #[.int .i64 0, .int .i64 0, .int .i64 0, .slice none 0 0, .slice none 0 0] 25)).alloc (.cells #[.int .i64 0, .int .i64 0, .string ⟨#[]⟩, .slice none 0 0, .slice none 0 0] 52)).alloc (.cells #[.slice A n c, .bool false] 59) ∧ RdM w0 wz ⟨0, 0, 0, [], []⟩ (.slice none 0 0) (.slice none 0 0) [] (b, false) ∧ NbX w0 wz ∧ wz.heap.size = w0.heap.size + 4 := by
  subst hn
  have B0 := ((((Blk.new_ w0 25 #[.int .i64 0, .int .i64 0, .int .i64 0, .slice none 0 0, .slice none 0 0]).alloc_ (.cells #[.int .i64 0, .int .i64 0, .int .i64 0, .slice none 0 0, .slice none 0 0] 25)).alloc_ (.cells #[.int .i64 0, .int .i64 0, .string ⟨#[]⟩, .slice none 0 0, .slice none 0 0] 52))).alloc_ (.cells #[.slice A b.length c, .bool false] 59)
  have B1 := ((Blk.new_ (w0.alloc (.cells #[.int .i64 0, .int .i64 0, .int .i64 0, .slice none 0 0, .slice none 0 0] 25)) 25 #[.int .i64 0, .int .i64 0, .int .i64 0, .slice none 0 0, .slice none 0 0]).alloc_ (.cells #[.int .i64 0, .int .i64 0, .string ⟨#[]⟩, .slice none 0 0, .slice none 0 0] 52)).alloc_ (.cells #[.slice A b.length c, .bool false] 59)
  have B2 := (Blk.new_ ((w0.alloc (.cells #[.int .i64 0, .int .i64 0, .int .i64 0, .slice none 0 0, .slice none 0 0] 25)).alloc (.cells #[.int .i64 0, .int .i64 0, .int .i64 0, .slice none 0 0, .slice none 0 0] 25)) 52 #[.int .i64 0, .int .i64 0, .string ByteArray.empty, .slice none 0 0, .slice none 0 0]).alloc_ (.cells #[.slice A b.length c, .bool false] 59)
  have B3 := Blk.new_ (((w0.alloc (.cells #[.int .i64 0, .int .i64 0, .int .i64 0, .slice none 0 0, .slice none 0 0] 25)).alloc (.cells #[.int .i64 0, .int .i64 0, .int .i64 0, .slice none 0 0, .slice none 0 0] 25)).alloc (.cells #[.int .i64 0, .int .i64 0, .string ⟨#[]⟩, .slice none 0 0, .slice none 0 0] 52)) 59 #[.slice A b.length c, .bool false]
  have hb : Below w0.heap.size w0 ((((w0.alloc (.cells #[.int .i64 0, .int .i64 0, .int .i64 0, .slice none 0 0, .slice none 0 0] 25)).alloc (.cells #[.int .i64 0, .int .i64 0, .int .i64 0, .slice none 0 0, .slice none 0 0] 25)).alloc (.cells #[.int .i64 0, .int .i64 0, .string ⟨#[]⟩, .slice none 0 0, .slice none 0 0] 52)).alloc (.cells #[.slice A b.length c, .bool false] 59)) := ((((Below.refl _ w0).alloc (Nat.le_refl _) _).alloc (by simp) _).alloc (by simp; omega) _).alloc (by simp; omega) _
  have e1 : ∀ (w : World) (o : Obj), (w.alloc o).heap.size = w.heap.size + 1 := fun w o => by simp
  simp only [e1] at B1 B2 B3
  exact ⟨_, rfl, ⟨hb, B0, B1, ⟨⟨A, c, B3, h.below hb, hc, hcm, hA⟩, h8, n1⟩, World.ownsRow_nil _ _ _ _, rfl, World.ownsRow_nil _ _ _ _, fun k n e a c => by simp at c⟩, ⟨_, _, _, _, _, B2⟩, by simp⟩
theorem RdM.fresh {w0 wr : World} {s : Sf} {vb vn : Value} {es : List (List Value)} {r : Rr} (h : RdM w0 wr s vb vn es r) (hx : NbX w0 wr) (a c : Int) (x : ByteArray) :
    ∃ wz, wz = st5 wr (w0.heap.size + 2) 0 (.int .i64 a) (.int .i64 c) (.string x) (.slice none 0 0) (.slice none 0 0) ∧ RdM w0 wz s vb vn es r ∧ NbM w0 wz ⟨a, c, x, [], []⟩ (.slice none 0 0) (.slice none 0 0) es := by
  obtain ⟨x0, x1, x2, x3, x4, hx⟩ := hx
  exact ⟨_, rfl, h.nbox (st5_grown _ _ _ _ _ _ _ _), NbM.fresh es a c x (hx.st5_ _ _ _ _ _)⟩
theorem cell5 {w : World} {g : Nat} {t : TypeId} {a b c d e : Value} (h : Blk w g t #[a, b, c, d, e]) : w.cell? ⟨g, 0, none⟩ = some a ∧ w.cell? ⟨g, 1, none⟩ = some b ∧ w.cell? ⟨g, 2, none⟩ = some c ∧ w.cell? ⟨g, 3, none⟩ = some d ∧ w.cell? ⟨g, 4, none⟩ = some e := by
  have h0 := h.cell_ 0
  have h1 := h.cell_ 1
  have h2 := h.cell_ 2
  have h3 := h.cell_ 3
  have h4 := h.cell_ 4
  simp at h0 h1 h2 h3 h4
  exact ⟨h0, h1, h2, h3, h4⟩
theorem oneI (x : Int) : ∀ u ∈ [Value.int .i64 x], u.oneCell' = true := fun u hu => by
  simp at hu
  subst hu
  rfl
theorem oneS (x : ByteArray) : ∀ u ∈ [strV x], u.oneCell' = true := fun u hu => by
  simp at hu
  subst hu
  rfl
theorem oneN (h : Nt) (A B : Option Addr) (m n c d : Nat) : ∀ u ∈ ntC h (.slice A m c) (.slice B n d), u.oneCell' = true := by
  intro u hu
  simp [ntC] at hu
  rcases hu with rfl | rfl | rfl | rfl | rfl <;> rfl
theorem rd_newNt (w : World) (h : Nt) (a b : Value) {g : Nat} (hg : g = w.heap.size) : Rd (w.alloc (.cells #[.int .i64 h.id, .int .i64 h.bk, .string h.nm, a, b] 52)) (some ⟨g, 0, none⟩) 1 5 (ntC h a b) := by
  subst hg
  refine ⟨rfl, Or.inr ⟨_, 0, rfl, fun j u hj => ?_⟩⟩
  rw [Joins.cell_of_block (heap_alloc_new w _), Nat.zero_add]
  simpa [ntC] using hj
theorem rd_new1 (w : World) (u : Value) (t : TypeId) {g : Nat} (hg : g = w.heap.size) : Rd (w.alloc (.cells #[u] t)) (some ⟨g, 0, none⟩) 1 1 [u] := by
  subst hg
  exact Rd.one (by rw [Joins.cell_of_block (heap_alloc_new w _)]; rfl)
theorem read_any (b : List Nat) (n : Nat) (A : Option Addr) (c : Nat) (w0 : World) (hn : b.length = n) (h : Sl w0 w0.heap.size A (b.map byteV)) (h8 : Bytes8 b) (hc : n ≤ c) (hcm : c ≤ maxLen) (n1 : n ≤ 100000) (hA : A = none → c = 0) (hT : Tabs w0) :
    Calls Tryd.prog 18 #[.slice A n c] w0 fun e' w' => RdA w0 b e' w' ∧ Below w0.heap.size w0 w' := by
  have HH := Lib.hid (And.intro hn h8)
  have HS := Lib.hid h
  have HA := Lib.hid hA
  have HT := Lib.hid hT
  clear hn h8 h hA hT
  go_enter Tryd.func18, Tryd.ntmps18
  go_wp2
  refine wp_scope_many (JJ w0 (rAll b)) ?_ ?_
  · intro l N a' wr hJ hcut
    have HC := Lib.hid hcut
    clear hcut
    rcases hJ with ⟨rfl, hJ⟩ | ⟨rfl, hJ⟩ | ⟨rfl, hJ⟩ | ⟨rfl, hJ⟩ | ⟨rfl, hJ⟩
    · obtain ⟨k, s, vb, vn, es, r, kz, u, rfl, hM, hX, hkz, hlb, hF, hn1⟩ := hJ
      refine ⟨_, (by simp only [findLabel, Nat.reduceBEq, if_true, if_false, Bool.false_eq_true]; rfl), ?_⟩
      by_cases hk0 : k = 0
      · subst hk0
        obtain rfl : kz = 0 := hkz.out
        have hle := nmb1_lt hM.rp.b8
        go_wp2_with (go_at_call 31; (have TK1 : Calls Tryd.prog 31 #[.pointer (some ⟨w0.heap.size + 3, 0, none⟩), .int .i64 1] _ _ := rnumb1 _ _ _ _ hM.rp (Nat.le_add_right _ _)); ((with_reducible refine TK1.mono ?_); rintro e' w1 ⟨rfl, hp, hg⟩; (try clear TK1); have hM := hM.call hg hp; have hX := hX.call hg; clear hp hg))
        go_step3
        exact (show ∃ m, m < N ∧ JJ w0 (rAll b) 0 m _ _ from ⟨600 * _ + 1, by omega, Or.inr (Or.inl ⟨rfl, J0.mk ⟨hM, hX, Lib.hid rfl, Lib.hid (by have := hlb.out.2; rw [this]; simp; omega), Lib.hid hF.out, Nat.le_refl _⟩⟩)⟩)
      · obtain ⟨K, rfl⟩ : ∃ K, k = K + 1 := ⟨k - 1, by omega⟩
        have l0 : ¬ kz = 0 := by have := hkz.out; omega
        have l1 : 1 ≤ kz := by have := hkz.out; omega
        have l2 : kz ≤ 255 := by have := hkz.out; have := hlb.out; omega
        have HKZ : Hid (kz - 1 = (K : Int)) := Lib.hid (by have := hkz.out; omega)
        obtain ⟨Ab, cb, rfl, -, -⟩ := own_shape hM.bk
        obtain ⟨m, hm⟩ : ∃ m, s.bs.length = m := ⟨_, rfl⟩
        rw [hm] at hM
        have hm2 : m ≤ 255 := by have := hlb.out; omega
        have HM := Lib.hid hm
        clear hm hk0
        go_upto_region 9 with fail
        replace hM := hM.below (drew_below (Below.refl _ wr))
        replace hX := hX.below (drew_below (Below.refl _ wr))
        obtain ⟨k0, k1, k2, k3, k4⟩ := cell5 hM.sb
        have f0 := hM.sb.free 0
        have f1 := hM.sb.free 1
        have f2 := hM.sb.free 2
        have f3 := hM.sb.free 3
        have f4 := hM.sb.free 4
        refine wp_region_noPanic ?_
        refine wp_region_held_drew (S := (fun _ => True)) (by kernel_rfl) ?_ (fun hHeld => ?_)
        · exact trivial
        refine tk 0 ?_; try simp only [Act.put, pz1, pz2, pz3]
        refine tk 2 ?_; try simp only [Act.put, pz1, pz2, pz3]
        refine tk 4 ?_; try simp only [Act.put, pz1, pz2, pz3]
        refine wpAnyH_ready (rs := [1, 3]) (by kernel_rfl) (by simp) ?_
        refine (AllReadyH.cons (o := ⟨some 30, .load 22 (.tmp 29), 22, "coding.go:96", #[⟨0, .data⟩], none⟩) rfl (fun K hK => ?_) (AllReadyH.cons (o := ⟨some 32, .call { callee := .value (.func 31), args := #[.tmp 31, .const (.int .i64 3)], argTypes := #[57, 3] }, 3, "coding.go:96", #[⟨2, .data⟩], none⟩) rfl (fun K hK => ?_) AllReadyH.nil))
        · go_simp
          refine hK.out _ _ ?_ (fun hNew => ?_)
          · exact trivial
          clear hK K hHeld
          have hHeld := hNew
          clear hNew
          try simp only [Act.put, pz1, pz2, pz3]
          refine wpAnyH_ready (rs := [3]) (by kernel_rfl) (by simp) ?_
          refine AllReadyH.cons (o := ⟨some 32, .call { callee := .value (.func 31), args := #[.tmp 31, .const (.int .i64 3)], argTypes := #[57, 3] }, 3, "coding.go:96", #[⟨2, .data⟩], none⟩) rfl (fun K hK => ?_) AllReadyH.nil
          go_simp
          (go_at_call 31; (have TK1 : Calls Tryd.prog 31 #[.pointer (some ⟨w0.heap.size + 3, 0, none⟩), .int .i64 3] _ _ := rnumb3 _ _ _ _ hM.rp (Nat.le_add_right _ _)); ((with_reducible refine TK1.mono ?_); rintro e' w1 ⟨rfl, hp, hg⟩; (try clear TK1); have hM := hM.call hg hp; have hX := hX.call hg; clear hp hg; (try clear k0 k1 k2 k3 k4 f0 f1 f2 f3 f4); obtain ⟨k0, k1, k2, k3, k4⟩ := cell5 hM.sb; have f0 := hM.sb.free 0; have f1 := hM.sb.free 1; have f2 := hM.sb.free 2; have f3 := hM.sb.free 3; have f4 := hM.sb.free 4))
          go_wp2_with fail
          refine hK.out _ _ ?_ (fun hNew => ?_)
          · exact trivial
          clear hK K hHeld
          have hHeld := hNew
          clear hNew
          try simp only [Act.put, pz1, pz2, pz3]
          refine wpAnyH_ready (rs := [5]) (by kernel_rfl) (by simp) ?_
          refine AllReadyH.cons (o := ⟨some 34, .call { callee := .value (.func 32), args := #[.tmp 33], argTypes := #[57] }, 9, "coding.go:96", #[⟨4, .data⟩, ⟨3, .chain⟩], none⟩) rfl (fun K hK => ?_) AllReadyH.nil
          go_simp
          (go_at_call 32; ((with_reducible refine (rname_any _ _ _ _ hM.rp (Nat.le_add_right _ _)).mono ?_); rintro e' w2 ⟨rfl, hp, hg⟩; have hM := hM.call hg hp; have hX := hX.call hg; clear hp hg; (try clear k0 k1 k2 k3 k4 f0 f1 f2 f3 f4); obtain ⟨k0, k1, k2, k3, k4⟩ := cell5 hM.sb; have f0 := hM.sb.free 0; have f1 := hM.sb.free 1; have f2 := hM.sb.free 2; have f3 := hM.sb.free 3; have f4 := hM.sb.free 4; have ka := (cell5 (hM.sb.alloc_ (.cells #[.int .i64 ((nmb 3 r).1 : Int), .string (txt (nmb 3 r).2).1] 48))).2.2.2.1))
          go_wp2_with fail
          refine hK.out _ _ ?_ (fun hNew => ?_)
          · exact trivial
          clear hK K hHeld
          have hHeld := hNew
          clear hNew
          try simp only [Act.put, pz1, pz2, pz3]
          refine tk 6 ?_; try simp only [Act.put, pz1, pz2, pz3]
          refine wpAnyH_ready (rs := [7]) (by kernel_rfl) (by simp) ?_
          refine AllReadyH.cons (o := ⟨some 36, .buildSlice 22 1 #[(0, .tmp 35)], 22, "coding.go:96", #[⟨6, .data⟩], none⟩) rfl (fun K hK => ?_) AllReadyH.nil
          go_simp
          refine hK.out _ _ ?_ (fun hNew => ?_)
          · exact trivial
          clear hK K hHeld
          have hHeld := hNew
          clear hNew
          try simp only [Act.put, pz1, pz2, pz3]
          refine wpAnyH_ready (rs := [8]) (by kernel_rfl) (by simp) ?_
          refine AllReadyH.cons (o := ⟨some 37, .call { callee := .builtin .append, args := #[.tmp 30, .tmp 36], argTypes := #[22, 22] }, 22, "coding.go:96", #[⟨1, .data⟩, ⟨7, .data⟩, ⟨5, .chain⟩], none⟩) rfl (fun K hK => ?_) AllReadyH.nil
          obtain ⟨ti0, hi, hz0, hz1, hz2⟩ := info_parts info_clBk
          have hMa := hM.below ((Below.refl _ _).alloc (Nat.le_refl _) (.cells #[.int .i64 ((nmb 3 r).1 : Int), .string (txt (nmb 3 r).2).1] 48))
          have hXa := hX.below ((Below.refl _ _).alloc (Nat.le_refl _) (.cells #[.int .i64 ((nmb 3 r).1 : Int), .string (txt (nmb 3 r).2).1] 48))
          have hon := hMa.bk
          unfold BksW at hon
          rw [HM.out] at hon
          refine step_app _ rfl (.tmp 30) (.tmp 36) _ rfl (w0.heap.size + 4) 48 ti0 _ 2 24 Tryd.underlying22 hi hz0 hz1 hz2 rfl (by decide) _ m (s.bs.map bkC).flatten rfl hon _ 1 _ (bkC (rBk1 r).1) rfl (rd_newB _ (rBk1 r).1 rfl) (bkC_one _) (by unfold maxLen; omega) (by omega) hMa.size ?_
          intro v7 w7 ho' hg' hv'
          clear hi hz0 hz1 hz2 hv'
          have hM3 := hMa.book (rBk1 r).1 HM.out ho' hg'
          have hX3 := hXa.row hg' (fun e => by have := hon.lt _ e; omega)
          have BB := hMa.sb.grownR hg' (fun e => by have := hon.lt _ e; omega)
          have f3 := BB.free 3
          have k3 := (cell5 BB).2.2.2.1
          clear BB
          obtain ⟨A7, c7, rfl, -, -⟩ := own_shape ho'
          have hX4 := hX3.one (set1_grown w7 (w0.heap.size + 1) 3 (.slice A7 (m + 1) c7)) rfl
          clear hX3 hon ho' hg' hXa hM hX
          refine hK.out _ _ ?_ (fun hNew => ?_)
          · exact trivial
          clear hK K hHeld
          have hHeld := hNew
          clear hNew
          try simp only [Act.put, pz1, pz2, pz3]
          refine tk 9 ?_; try simp only [Act.put, pz1, pz2, pz3]
          refine wpAnyH_ready (rs := [10]) (by kernel_rfl) (by simp) ?_
          refine AllReadyH.cons (o := ⟨none, .store 22 (.tmp 38) (.tmp 37), 0, "coding.go:96", #[⟨9, .data⟩, ⟨8, .data⟩, ⟨8, .chain⟩, ⟨0, .phase⟩, ⟨1, .phase⟩, ⟨2, .phase⟩, ⟨3, .phase⟩, ⟨4, .phase⟩, ⟨5, .phase⟩, ⟨6, .phase⟩, ⟨7, .phase⟩, ⟨8, .phase⟩], none⟩) rfl (fun K hK => ?_) AllReadyH.nil
          go_simp
          refine hK.out _ _ ?_ (fun hNew => ?_)
          · exact trivial
          clear hK K hHeld
          have hHeld := hNew
          clear hNew
          try simp only [Act.put, pz1, pz2, pz3]
          refine wpAnyH_done (by kernel_rfl) ?_ _
          refine NoPanic.normal ?_
          clear hHeld
          go_wp2_with fail
          go_step3
          exact (show ∃ m, m < N ∧ JJ w0 (rAll b) 1 m _ _ from ⟨153600 + K + 2, by omega, Or.inl ⟨rfl, J1.mk (s := { s with bs := s.bs ++ [(rBk1 r).1] }) (k := K) ⟨hM3, hX4, HKZ, Lib.hid (by have := hlb.out; have := HM.out; refine ⟨?_, hlb.out.2⟩; simp; omega), Lib.hid hF.out, Nat.le_refl _⟩⟩⟩)
        · go_simp
          (first | (go_at_call 31; (have TK1 : Calls Tryd.prog 31 #[.pointer (some ⟨w0.heap.size + 3, 0, none⟩), .int .i64 3] _ _ := rnumb3 _ _ _ _ hM.rp (Nat.le_add_right _ _)); ((with_reducible refine TK1.mono ?_); rintro e' w1 ⟨rfl, hp, hg⟩; (try clear TK1); have hM := hM.call hg hp; have hX := hX.call hg; clear hp hg; (try clear k0 k1 k2 k3 k4 f0 f1 f2 f3 f4); obtain ⟨k0, k1, k2, k3, k4⟩ := cell5 hM.sb; have f0 := hM.sb.free 0; have f1 := hM.sb.free 1; have f2 := hM.sb.free 2; have f3 := hM.sb.free 3; have f4 := hM.sb.free 4)) | (go_at_call 32; ((with_reducible refine (rname_any _ _ _ _ hM.rp (Nat.le_add_right _ _)).mono ?_); rintro e' w2 ⟨rfl, hp, hg⟩; have hM := hM.call hg hp; have hX := hX.call hg; clear hp hg; (try clear k0 k1 k2 k3 k4 f0 f1 f2 f3 f4); obtain ⟨k0, k1, k2, k3, k4⟩ := cell5 hM.sb; have f0 := hM.sb.free 0; have f1 := hM.sb.free 1; have f2 := hM.sb.free 2; have f3 := hM.sb.free 3; have f4 := hM.sb.free 4; have ka := (cell5 (hM.sb.alloc_ (.cells #[.int .i64 ((nmb 3 r).1 : Int), .string (txt (nmb 3 r).2).1] 48))).2.2.2.1)))
          go_wp2_with fail
          refine hK.out _ _ ?_ (fun hNew => ?_)
          · exact trivial
          clear hK K hHeld
          have hHeld := hNew
          clear hNew
          try simp only [Act.put, pz1, pz2, pz3]
          refine wpAnyH_ready (rs := [1, 5]) (by kernel_rfl) (by simp) ?_
          refine (AllReadyH.cons (o := ⟨some 30, .load 22 (.tmp 29), 22, "coding.go:96", #[⟨0, .data⟩], none⟩) rfl (fun K hK => ?_) (AllReadyH.cons (o := ⟨some 34, .call { callee := .value (.func 32), args := #[.tmp 33], argTypes := #[57] }, 9, "coding.go:96", #[⟨4, .data⟩, ⟨3, .chain⟩], none⟩) rfl (fun K hK => ?_) AllReadyH.nil))
          · go_simp
            refine hK.out _ _ ?_ (fun hNew => ?_)
            · exact trivial
            clear hK K hHeld
            have hHeld := hNew
            clear hNew
            try simp only [Act.put, pz1, pz2, pz3]
            refine wpAnyH_ready (rs := [5]) (by kernel_rfl) (by simp) ?_
            refine AllReadyH.cons (o := ⟨some 34, .call { callee := .value (.func 32), args := #[.tmp 33], argTypes := #[57] }, 9, "coding.go:96", #[⟨4, .data⟩, ⟨3, .chain⟩], none⟩) rfl (fun K hK => ?_) AllReadyH.nil
            go_simp
            (go_at_call 32; ((with_reducible refine (rname_any _ _ _ _ hM.rp (Nat.le_add_right _ _)).mono ?_); rintro e' w2 ⟨rfl, hp, hg⟩; have hM := hM.call hg hp; have hX := hX.call hg; clear hp hg; (try clear k0 k1 k2 k3 k4 f0 f1 f2 f3 f4); obtain ⟨k0, k1, k2, k3, k4⟩ := cell5 hM.sb; have f0 := hM.sb.free 0; have f1 := hM.sb.free 1; have f2 := hM.sb.free 2; have f3 := hM.sb.free 3; have f4 := hM.sb.free 4; have ka := (cell5 (hM.sb.alloc_ (.cells #[.int .i64 ((nmb 3 r).1 : Int), .string (txt (nmb 3 r).2).1] 48))).2.2.2.1))
            go_wp2_with fail
            refine hK.out _ _ ?_ (fun hNew => ?_)
            · exact trivial
            clear hK K hHeld
            have hHeld := hNew
            clear hNew
            try simp only [Act.put, pz1, pz2, pz3]
            refine tk 6 ?_; try simp only [Act.put, pz1, pz2, pz3]
            refine wpAnyH_ready (rs := [7]) (by kernel_rfl) (by simp) ?_
            refine AllReadyH.cons (o := ⟨some 36, .buildSlice 22 1 #[(0, .tmp 35)], 22, "coding.go:96", #[⟨6, .data⟩], none⟩) rfl (fun K hK => ?_) AllReadyH.nil
            go_simp
            refine hK.out _ _ ?_ (fun hNew => ?_)
            · exact trivial
            clear hK K hHeld
            have hHeld := hNew
            clear hNew
            try simp only [Act.put, pz1, pz2, pz3]
            refine wpAnyH_ready (rs := [8]) (by kernel_rfl) (by simp) ?_
            refine AllReadyH.cons (o := ⟨some 37, .call { callee := .builtin .append, args := #[.tmp 30, .tmp 36], argTypes := #[22, 22] }, 22, "coding.go:96", #[⟨1, .data⟩, ⟨7, .data⟩, ⟨5, .chain⟩], none⟩) rfl (fun K hK => ?_) AllReadyH.nil
            obtain ⟨ti0, hi, hz0, hz1, hz2⟩ := info_parts info_clBk
            have hMa := hM.below ((Below.refl _ _).alloc (Nat.le_refl _) (.cells #[.int .i64 ((nmb 3 r).1 : Int), .string (txt (nmb 3 r).2).1] 48))
            have hXa := hX.below ((Below.refl _ _).alloc (Nat.le_refl _) (.cells #[.int .i64 ((nmb 3 r).1 : Int), .string (txt (nmb 3 r).2).1] 48))
            have hon := hMa.bk
            unfold BksW at hon
            rw [HM.out] at hon
            refine step_app _ rfl (.tmp 30) (.tmp 36) _ rfl (w0.heap.size + 4) 48 ti0 _ 2 24 Tryd.underlying22 hi hz0 hz1 hz2 rfl (by decide) _ m (s.bs.map bkC).flatten rfl hon _ 1 _ (bkC (rBk1 r).1) rfl (rd_newB _ (rBk1 r).1 rfl) (bkC_one _) (by unfold maxLen; omega) (by omega) hMa.size ?_
            intro v7 w7 ho' hg' hv'
            clear hi hz0 hz1 hz2 hv'
            have hM3 := hMa.book (rBk1 r).1 HM.out ho' hg'
            have hX3 := hXa.row hg' (fun e => by have := hon.lt _ e; omega)
            have BB := hMa.sb.grownR hg' (fun e => by have := hon.lt _ e; omega)
            have f3 := BB.free 3
            have k3 := (cell5 BB).2.2.2.1
            clear BB
            obtain ⟨A7, c7, rfl, -, -⟩ := own_shape ho'
            have hX4 := hX3.one (set1_grown w7 (w0.heap.size + 1) 3 (.slice A7 (m + 1) c7)) rfl
            clear hX3 hon ho' hg' hXa hM hX
            refine hK.out _ _ ?_ (fun hNew => ?_)
            · exact trivial
            clear hK K hHeld
            have hHeld := hNew
            clear hNew
            try simp only [Act.put, pz1, pz2, pz3]
            refine tk 9 ?_; try simp only [Act.put, pz1, pz2, pz3]
            refine wpAnyH_ready (rs := [10]) (by kernel_rfl) (by simp) ?_
            refine AllReadyH.cons (o := ⟨none, .store 22 (.tmp 38) (.tmp 37), 0, "coding.go:96", #[⟨9, .data⟩, ⟨8, .data⟩, ⟨8, .chain⟩, ⟨0, .phase⟩, ⟨1, .phase⟩, ⟨2, .phase⟩, ⟨3, .phase⟩, ⟨4, .phase⟩, ⟨5, .phase⟩, ⟨6, .phase⟩, ⟨7, .phase⟩, ⟨8, .phase⟩], none⟩) rfl (fun K hK => ?_) AllReadyH.nil
            go_simp
            refine hK.out _ _ ?_ (fun hNew => ?_)
            · exact trivial
            clear hK K hHeld
            have hHeld := hNew
            clear hNew
            try simp only [Act.put, pz1, pz2, pz3]
            refine wpAnyH_done (by kernel_rfl) ?_ _
            refine NoPanic.normal ?_
            clear hHeld
            go_wp2_with fail
            go_step3
            exact (show ∃ m, m < N ∧ JJ w0 (rAll b) 1 m _ _ from ⟨153600 + K + 2, by omega, Or.inl ⟨rfl, J1.mk (s := { s with bs := s.bs ++ [(rBk1 r).1] }) (k := K) ⟨hM3, hX4, HKZ, Lib.hid (by have := hlb.out; have := HM.out; refine ⟨?_, hlb.out.2⟩; simp; omega), Lib.hid hF.out, Nat.le_refl _⟩⟩⟩)
          · go_simp
            (first | (go_at_call 31; (have TK1 : Calls Tryd.prog 31 #[.pointer (some ⟨w0.heap.size + 3, 0, none⟩), .int .i64 3] _ _ := rnumb3 _ _ _ _ hM.rp (Nat.le_add_right _ _)); ((with_reducible refine TK1.mono ?_); rintro e' w1 ⟨rfl, hp, hg⟩; (try clear TK1); have hM := hM.call hg hp; have hX := hX.call hg; clear hp hg; (try clear k0 k1 k2 k3 k4 f0 f1 f2 f3 f4); obtain ⟨k0, k1, k2, k3, k4⟩ := cell5 hM.sb; have f0 := hM.sb.free 0; have f1 := hM.sb.free 1; have f2 := hM.sb.free 2; have f3 := hM.sb.free 3; have f4 := hM.sb.free 4)) | (go_at_call 32; ((with_reducible refine (rname_any _ _ _ _ hM.rp (Nat.le_add_right _ _)).mono ?_); rintro e' w2 ⟨rfl, hp, hg⟩; have hM := hM.call hg hp; have hX := hX.call hg; clear hp hg; (try clear k0 k1 k2 k3 k4 f0 f1 f2 f3 f4); obtain ⟨k0, k1, k2, k3, k4⟩ := cell5 hM.sb; have f0 := hM.sb.free 0; have f1 := hM.sb.free 1; have f2 := hM.sb.free 2; have f3 := hM.sb.free 3; have f4 := hM.sb.free 4; have ka := (cell5 (hM.sb.alloc_ (.cells #[.int .i64 ((nmb 3 r).1 : Int), .string (txt (nmb 3 r).2).1] 48))).2.2.2.1)))
            go_wp2_with fail
            refine hK.out _ _ ?_ (fun hNew => ?_)
            · exact trivial
            clear hK K hHeld
            have hHeld := hNew
            clear hNew
            try simp only [Act.put, pz1, pz2, pz3]
            refine tk 6 ?_; try simp only [Act.put, pz1, pz2, pz3]
            refine wpAnyH_ready (rs := [1, 7]) (by kernel_rfl) (by simp) ?_
            refine (AllReadyH.cons (o := ⟨some 30, .load 22 (.tmp 29), 22, "coding.go:96", #[⟨0, .data⟩], none⟩) rfl (fun K hK => ?_) (AllReadyH.cons (o := ⟨some 36, .buildSlice 22 1 #[(0, .tmp 35)], 22, "coding.go:96", #[⟨6, .data⟩], none⟩) rfl (fun K hK => ?_) AllReadyH.nil))
            · go_simp
              refine hK.out _ _ ?_ (fun hNew => ?_)
              · exact trivial
              clear hK K hHeld
              have hHeld := hNew
              clear hNew
              try simp only [Act.put, pz1, pz2, pz3]
              refine wpAnyH_ready (rs := [7]) (by kernel_rfl) (by simp) ?_
              refine AllReadyH.cons (o := ⟨some 36, .buildSlice 22 1 #[(0, .tmp 35)], 22, "coding.go:96", #[⟨6, .data⟩], none⟩) rfl (fun K hK => ?_) AllReadyH.nil
              go_simp
              refine hK.out _ _ ?_ (fun hNew => ?_)
              · exact trivial
              clear hK K hHeld
              have hHeld := hNew
              clear hNew
              try simp only [Act.put, pz1, pz2, pz3]
              refine wpAnyH_ready (rs := [8]) (by kernel_rfl) (by simp) ?_
              refine AllReadyH.cons (o := ⟨some 37, .call { callee := .builtin .append, args := #[.tmp 30, .tmp 36], argTypes := #[22, 22] }, 22, "coding.go:96", #[⟨1, .data⟩, ⟨7, .data⟩, ⟨5, .chain⟩], none⟩) rfl (fun K hK => ?_) AllReadyH.nil
              obtain ⟨ti0, hi, hz0, hz1, hz2⟩ := info_parts info_clBk
              have hMa := hM.below ((Below.refl _ _).alloc (Nat.le_refl _) (.cells #[.int .i64 ((nmb 3 r).1 : Int), .string (txt (nmb 3 r).2).1] 48))
              have hXa := hX.below ((Below.refl _ _).alloc (Nat.le_refl _) (.cells #[.int .i64 ((nmb 3 r).1 : Int), .string (txt (nmb 3 r).2).1] 48))
              have hon := hMa.bk
              unfold BksW at hon
              rw [HM.out] at hon
              refine step_app _ rfl (.tmp 30) (.tmp 36) _ rfl (w0.heap.size + 4) 48 ti0 _ 2 24 Tryd.underlying22 hi hz0 hz1 hz2 rfl (by decide) _ m (s.bs.map bkC).flatten rfl hon _ 1 _ (bkC (rBk1 r).1) rfl (rd_newB _ (rBk1 r).1 rfl) (bkC_one _) (by unfold maxLen; omega) (by omega) hMa.size ?_
              intro v7 w7 ho' hg' hv'
              clear hi hz0 hz1 hz2 hv'
              have hM3 := hMa.book (rBk1 r).1 HM.out ho' hg'
              have hX3 := hXa.row hg' (fun e => by have := hon.lt _ e; omega)
              have BB := hMa.sb.grownR hg' (fun e => by have := hon.lt _ e; omega)
              have f3 := BB.free 3
              have k3 := (cell5 BB).2.2.2.1
              clear BB
              obtain ⟨A7, c7, rfl, -, -⟩ := own_shape ho'
              have hX4 := hX3.one (set1_grown w7 (w0.heap.size + 1) 3 (.slice A7 (m + 1) c7)) rfl
              clear hX3 hon ho' hg' hXa hM hX
              refine hK.out _ _ ?_ (fun hNew => ?_)
              · exact trivial
              clear hK K hHeld
              have hHeld := hNew
              clear hNew
              try simp only [Act.put, pz1, pz2, pz3]
              refine tk 9 ?_; try simp only [Act.put, pz1, pz2, pz3]
              refine wpAnyH_ready (rs := [10]) (by kernel_rfl) (by simp) ?_
              refine AllReadyH.cons (o := ⟨none, .store 22 (.tmp 38) (.tmp 37), 0, "coding.go:96", #[⟨9, .data⟩, ⟨8, .data⟩, ⟨8, .chain⟩, ⟨0, .phase⟩, ⟨1, .phase⟩, ⟨2, .phase⟩, ⟨3, .phase⟩, ⟨4, .phase⟩, ⟨5, .phase⟩, ⟨6, .phase⟩, ⟨7, .phase⟩, ⟨8, .phase⟩], none⟩) rfl (fun K hK => ?_) AllReadyH.nil
              go_simp
              refine hK.out _ _ ?_ (fun hNew => ?_)
              · exact trivial
              clear hK K hHeld
              have hHeld := hNew
              clear hNew
              try simp only [Act.put, pz1, pz2, pz3]
              refine wpAnyH_done (by kernel_rfl) ?_ _
              refine NoPanic.normal ?_
              clear hHeld
              go_wp2_with fail
              go_step3
              exact (show ∃ m, m < N ∧ JJ w0 (rAll b) 1 m _ _ from ⟨153600 + K + 2, by omega, Or.inl ⟨rfl, J1.mk (s := { s with bs := s.bs ++ [(rBk1 r).1] }) (k := K) ⟨hM3, hX4, HKZ, Lib.hid (by have := hlb.out; have := HM.out; refine ⟨?_, hlb.out.2⟩; simp; omega), Lib.hid hF.out, Nat.le_refl _⟩⟩⟩)
            · go_simp
              refine hK.out _ _ ?_ (fun hNew => ?_)
              · exact trivial
              clear hK K hHeld
              have hHeld := hNew
              clear hNew
              try simp only [Act.put, pz1, pz2, pz3]
              refine wpAnyH_ready (rs := [1]) (by kernel_rfl) (by simp) ?_
              refine AllReadyH.cons (o := ⟨some 30, .load 22 (.tmp 29), 22, "coding.go:96", #[⟨0, .data⟩], none⟩) rfl (fun K hK => ?_) AllReadyH.nil
              go_simp
              refine hK.out _ _ ?_ (fun hNew => ?_)
              · exact trivial
              clear hK K hHeld
              have hHeld := hNew
              clear hNew
              try simp only [Act.put, pz1, pz2, pz3]
              refine wpAnyH_ready (rs := [8]) (by kernel_rfl) (by simp) ?_
              refine AllReadyH.cons (o := ⟨some 37, .call { callee := .builtin .append, args := #[.tmp 30, .tmp 36], argTypes := #[22, 22] }, 22, "coding.go:96", #[⟨1, .data⟩, ⟨7, .data⟩, ⟨5, .chain⟩], none⟩) rfl (fun K hK => ?_) AllReadyH.nil
              obtain ⟨ti0, hi, hz0, hz1, hz2⟩ := info_parts info_clBk
              have hMa := hM.below ((Below.refl _ _).alloc (Nat.le_refl _) (.cells #[.int .i64 ((nmb 3 r).1 : Int), .string (txt (nmb 3 r).2).1] 48))
              have hXa := hX.below ((Below.refl _ _).alloc (Nat.le_refl _) (.cells #[.int .i64 ((nmb 3 r).1 : Int), .string (txt (nmb 3 r).2).1] 48))
              have hon := hMa.bk
              unfold BksW at hon
              rw [HM.out] at hon
              refine step_app _ rfl (.tmp 30) (.tmp 36) _ rfl (w0.heap.size + 4) 48 ti0 _ 2 24 Tryd.underlying22 hi hz0 hz1 hz2 rfl (by decide) _ m (s.bs.map bkC).flatten rfl hon _ 1 _ (bkC (rBk1 r).1) rfl (rd_newB _ (rBk1 r).1 rfl) (bkC_one _) (by unfold maxLen; omega) (by omega) hMa.size ?_
              intro v7 w7 ho' hg' hv'
              clear hi hz0 hz1 hz2 hv'
              have hM3 := hMa.book (rBk1 r).1 HM.out ho' hg'
              have hX3 := hXa.row hg' (fun e => by have := hon.lt _ e; omega)
              have BB := hMa.sb.grownR hg' (fun e => by have := hon.lt _ e; omega)
              have f3 := BB.free 3
              have k3 := (cell5 BB).2.2.2.1
              clear BB
              obtain ⟨A7, c7, rfl, -, -⟩ := own_shape ho'
              have hX4 := hX3.one (set1_grown w7 (w0.heap.size + 1) 3 (.slice A7 (m + 1) c7)) rfl
              clear hX3 hon ho' hg' hXa hM hX
              refine hK.out _ _ ?_ (fun hNew => ?_)
              · exact trivial
              clear hK K hHeld
              have hHeld := hNew
              clear hNew
              try simp only [Act.put, pz1, pz2, pz3]
              refine tk 9 ?_; try simp only [Act.put, pz1, pz2, pz3]
              refine wpAnyH_ready (rs := [10]) (by kernel_rfl) (by simp) ?_
              refine AllReadyH.cons (o := ⟨none, .store 22 (.tmp 38) (.tmp 37), 0, "coding.go:96", #[⟨9, .data⟩, ⟨8, .data⟩, ⟨8, .chain⟩, ⟨0, .phase⟩, ⟨1, .phase⟩, ⟨2, .phase⟩, ⟨3, .phase⟩, ⟨4, .phase⟩, ⟨5, .phase⟩, ⟨6, .phase⟩, ⟨7, .phase⟩, ⟨8, .phase⟩], none⟩) rfl (fun K hK => ?_) AllReadyH.nil
              go_simp
              refine hK.out _ _ ?_ (fun hNew => ?_)
              · exact trivial
              clear hK K hHeld
              have hHeld := hNew
              clear hNew
              try simp only [Act.put, pz1, pz2, pz3]
              refine wpAnyH_done (by kernel_rfl) ?_ _
              refine NoPanic.normal ?_
              clear hHeld
              go_wp2_with fail
              go_step3
              exact (show ∃ m, m < N ∧ JJ w0 (rAll b) 1 m _ _ from ⟨153600 + K + 2, by omega, Or.inl ⟨rfl, J1.mk (s := { s with bs := s.bs ++ [(rBk1 r).1] }) (k := K) ⟨hM3, hX4, HKZ, Lib.hid (by have := hlb.out; have := HM.out; refine ⟨?_, hlb.out.2⟩; simp; omega), Lib.hid hF.out, Nat.le_refl _⟩⟩⟩)
    · obtain ⟨j, s, vb, vn, es, r, jz, u, rfl, hM, hX, hjz, hlb, hF, hn1⟩ := hJ
      refine ⟨_, (by simp only [findLabel, Nat.reduceBEq, if_true, if_false, Bool.false_eq_true]; rfl), ?_⟩
      by_cases hk0 : j = 0
      · subst hk0
        obtain rfl : jz = 0 := hjz.out
        go_wp2_with fail
        go_step3
        exact (show ∃ m, m < N ∧ JJ w0 (rAll b) 2 m _ _ from ⟨0, by omega, Or.inr (Or.inr (Or.inr (Or.inr ⟨rfl, J2.mk ⟨hM, Lib.hid hF.out⟩⟩)))⟩)
      · obtain ⟨L, rfl⟩ : ∃ L, j = L + 1 := ⟨j - 1, by omega⟩
        have l0 : ¬ jz = 0 := by have := hjz.out; omega
        have l1 : 1 ≤ jz := by have := hjz.out; omega
        have l2 : jz ≤ 255 := by have := hjz.out; have := hlb.out; omega
        have HKZ : Hid (jz - 1 = (L : Int)) := Lib.hid (by have := hjz.out; omega)
        clear hk0
        have BX := hX
        obtain ⟨x0, x1, x2, x3, x4, BX⟩ := BX
        obtain ⟨b0, b1, b2, b3, b4⟩ := cell5 BX
        have e0 := BX.free 0
        have e1 := BX.free 1
        have e2 := BX.free 2
        have e3 := BX.free 3
        have e4 := BX.free 4
        go_upto_region 13 with (first | (go_at_call 31; (have TK1 : Calls Tryd.prog 31 #[.pointer (some ⟨w0.heap.size + 3, 0, none⟩), .int .i64 3] _ _ := rnumb3 _ _ _ _ hM.rp (Nat.le_add_right _ _)); ((with_reducible refine TK1.mono ?_); rintro e' w1 ⟨rfl, hp, hg⟩; (try clear TK1); have hM := hM.call hg hp; have hX := hX.call hg; clear hp hg; (have BX := hX; obtain ⟨x0, x1, x2, x3, x4, BX⟩ := BX); (try clear b0 b1 b2 b3 b4 e0 e1 e2 e3 e4); obtain ⟨b0, b1, b2, b3, b4⟩ := cell5 BX; have e0 := BX.free 0; have e1 := BX.free 1; have e2 := BX.free 2; have e3 := BX.free 3; have e4 := BX.free 4)) | (go_at_call 32; ((with_reducible refine (rname_any _ _ _ _ hM.rp (Nat.le_add_right _ _)).mono ?_); rintro e' w3 ⟨rfl, hp, hg⟩; have hM := hM.call hg hp; have hX := hX.call hg; clear hp hg; (have BX := hX; obtain ⟨x0, x1, x2, x3, x4, BX⟩ := BX); (try clear b0 b1 b2 b3 b4 e0 e1 e2 e3 e4); obtain ⟨b0, b1, b2, b3, b4⟩ := cell5 BX; have e0 := BX.free 0; have e1 := BX.free 1; have e2 := BX.free 2; have e3 := BX.free 3; have e4 := BX.free 4)))
        obtain ⟨wz, hwz, hMz, hN⟩ := hM.fresh hX ((nmb 3 r).1 : Int) ((nmb 3 (nmb 3 r).2).1 : Int) (txt (nmb 3 (nmb 3 r).2).2).1
        change Code.wp _ _ _ _ (st5 _ (w0.heap.size + 2) 0 _ _ _ _ _)
        rw [← hwz]
        clear hwz hM hX BX
        (try clear b0 b1 b2 b3 b4 e0 e1 e2 e3 e4)
        replace hM := hMz
        clear hMz
        have hle : (nmb 1 (rH1 r).2).1 ≤ 255 := nmb1_lt hM.rp.b8
        go_wp2_with (go_at_call 31; (have TK1 : Calls Tryd.prog 31 #[.pointer (some ⟨w0.heap.size + 3, 0, none⟩), .int .i64 1] _ _ := rnumb1 _ _ _ _ hM.rp (Nat.le_add_right _ _)); ((with_reducible refine TK1.mono ?_); rintro e' w4 ⟨rfl, hp, hg⟩; (try clear TK1); have hM := hM.call hg hp; have hN := hN.call hg; clear hp hg))
        rename_i K hK
        go_step3
        show K _ _
        refine hK _ _ ?_
        exact HC.out 4 _ _ _ (show 600 * L + 300 + (nmb 1 (rH1 r).2).1 < N by omega) (Or.inr (Or.inr (Or.inl ⟨rfl, J4.mk (h := (rH1 r).1) ⟨hM, hN, Lib.hid ⟨HKZ.out, rfl⟩, Lib.hid ⟨by have := hlb.out; omega, by show (nmb 1 (rH1 r).2).1 + 0 ≤ 255; omega, rfl⟩, Lib.hid hF.out, Nat.le_refl _⟩⟩))) _ (by kernel_rfl)
    · obtain ⟨j, k, s, h, vt, vb, vn, es, r, jz, kz, u, rfl, hM, hN, hz, hlb, hF, hn1⟩ := hJ
      refine ⟨_, (by simp only [findLabel, Nat.reduceBEq, if_true, if_false, Bool.false_eq_true]; rfl), ?_⟩
      have j2 : jz ≤ 255 := by have := hz.out; have := hlb.out; omega
      have j3 : 0 ≤ jz := by have := hz.out; omega
      by_cases hk0 : k = 0
      · subst hk0
        obtain rfl : kz = 0 := hz.out.2
        have hle := nmb1_lt hM.rp.b8
        go_wp2_with (go_at_call 31; (have TK1 : Calls Tryd.prog 31 #[.pointer (some ⟨w0.heap.size + 3, 0, none⟩), .int .i64 1] _ _ := rnumb1 _ _ _ _ hM.rp (Nat.le_add_right _ _)); ((with_reducible refine TK1.mono ?_); rintro e' w1 ⟨rfl, hp, hg⟩; (try clear TK1); have hM := hM.call hg hp; have hN := hN.call hg; clear hp hg))
        go_step3
        exact (show ∃ m, m < N ∧ JJ w0 (rAll b) 3 m _ _ from ⟨600 * j + 2 + _, by omega, Or.inr (Or.inr (Or.inr (Or.inl ⟨rfl, J3.mk ⟨hM, hN, Lib.hid ⟨hz.out.1, rfl⟩, Lib.hid ⟨hlb.out.1, by have := hlb.out.2.2; rw [this]; simp; omega⟩, Lib.hid hF.out, Nat.le_refl _⟩⟩)))⟩)
      · obtain ⟨K, rfl⟩ : ∃ K, k = K + 1 := ⟨k - 1, by omega⟩
        have l0 : ¬ kz = 0 := by have := hz.out; omega
        have l1 : 1 ≤ kz := by have := hz.out; omega
        have l2 : kz ≤ 255 := by have := hz.out; have := hlb.out; omega
        have HKZ : Hid (jz = (j : Int) ∧ kz - 1 = (K : Int)) := Lib.hid (by have := hz.out; omega)
        obtain ⟨At, ct, rfl, -, -⟩ := own_shape hN.tg
        obtain ⟨m, hm⟩ : ∃ m, h.tg.length = m := ⟨_, rfl⟩
        rw [hm] at hN
        have hm2 : m ≤ 255 := by have := hlb.out; omega
        have HM := Lib.hid hm
        clear hm hk0
        go_upto_region 17 with fail
        replace hM := hM.below (drew_below (Below.refl _ wr))
        replace hN := hN.below (drew_below (Below.refl _ wr))
        obtain ⟨b0, b1, b2, b3, b4⟩ := cell5 hN.nb
        have e0 := hN.nb.free 0
        have e1 := hN.nb.free 1
        have e2 := hN.nb.free 2
        have e3 := hN.nb.free 3
        have e4 := hN.nb.free 4
        refine wp_region_noPanic ?_
        refine wp_region_held_drew (S := (fun _ => True)) (by kernel_rfl) ?_ (fun hHeld => ?_)
        · exact trivial
        refine tk 0 ?_; try simp only [Act.put, pz1, pz2, pz3]
        refine tk 2 ?_; try simp only [Act.put, pz1, pz2, pz3]
        refine wpAnyH_ready (rs := [1, 3]) (by kernel_rfl) (by simp) ?_
        refine (AllReadyH.cons (o := ⟨some 59, .load 49 (.tmp 58), 49, "coding.go:113", #[⟨0, .data⟩], none⟩) rfl (fun K hK => ?_) (AllReadyH.cons (o := ⟨some 61, .call { callee := .value (.func 32), args := #[.tmp 60], argTypes := #[57] }, 9, "coding.go:113", #[⟨2, .data⟩], none⟩) rfl (fun K hK => ?_) AllReadyH.nil))
        · go_simp
          refine hK.out _ _ ?_ (fun hNew => ?_)
          · exact trivial
          clear hK K hHeld
          have hHeld := hNew
          clear hNew
          try simp only [Act.put, pz1, pz2, pz3]
          refine wpAnyH_ready (rs := [3]) (by kernel_rfl) (by simp) ?_
          refine AllReadyH.cons (o := ⟨some 61, .call { callee := .value (.func 32), args := #[.tmp 60], argTypes := #[57] }, 9, "coding.go:113", #[⟨2, .data⟩], none⟩) rfl (fun K hK => ?_) AllReadyH.nil
          go_simp
          (go_at_call 32; ((with_reducible refine (rname_any _ _ _ _ hM.rp (Nat.le_add_right _ _)).mono ?_); rintro e' w2 ⟨rfl, hp, hg⟩; have hM := hM.call hg hp; have hN := hN.call hg; clear hp hg; (try clear b0 b1 b2 b3 b4 e0 e1 e2 e3 e4); obtain ⟨b0, b1, b2, b3, b4⟩ := cell5 hN.nb; have e0 := hN.nb.free 0; have e1 := hN.nb.free 1; have e2 := hN.nb.free 2; have e3 := hN.nb.free 3; have e4 := hN.nb.free 4; have ba := (cell5 (hN.nb.alloc_ (.cells #[.string (txt r).1] 9))).2.2.2.1))
          go_wp2_with fail
          refine hK.out _ _ ?_ (fun hNew => ?_)
          · exact trivial
          clear hK K hHeld
          have hHeld := hNew
          clear hNew
          try simp only [Act.put, pz1, pz2, pz3]
          refine wpAnyH_ready (rs := [4]) (by kernel_rfl) (by simp) ?_
          refine AllReadyH.cons (o := ⟨some 62, .buildSlice 49 1 #[(0, .tmp 61)], 49, "coding.go:113", #[⟨3, .data⟩], none⟩) rfl (fun K hK => ?_) AllReadyH.nil
          go_simp
          refine hK.out _ _ ?_ (fun hNew => ?_)
          · exact trivial
          clear hK K hHeld
          have hHeld := hNew
          clear hNew
          try simp only [Act.put, pz1, pz2, pz3]
          refine wpAnyH_ready (rs := [5]) (by kernel_rfl) (by simp) ?_
          refine AllReadyH.cons (o := ⟨some 63, .call { callee := .builtin .append, args := #[.tmp 59, .tmp 62], argTypes := #[49, 49] }, 49, "coding.go:113", #[⟨1, .data⟩, ⟨4, .data⟩, ⟨3, .chain⟩], none⟩) rfl (fun K hK => ?_) AllReadyH.nil
          obtain ⟨ti0, hi, hz0, hz1, hz2⟩ := info_parts info_clStr
          have hMa := hM.below ((Below.refl _ _).alloc (Nat.le_refl _) (.cells #[.string (txt r).1] 9))
          have hNa := hN.below ((Below.refl _ _).alloc (Nat.le_refl _) (.cells #[.string (txt r).1] 9))
          have hon := hNa.tg
          rw [HM.out] at hon
          refine step_app _ rfl (.tmp 59) (.tmp 62) _ rfl (w0.heap.size + 4) 9 ti0 _ 1 16 Tryd.underlying49 hi hz0 hz1 hz2 rfl (by decide) _ m (h.tg.map strV) rfl hon _ 1 _ [strV (txt r).1] rfl (rd_new1 _ _ _ rfl) (oneS _) (by unfold maxLen; omega) (by omega) hMa.size ?_
          intro v7 w7 ho' hg' hv'
          clear hi hz0 hz1 hz2
          have hQ := hMa.tag hNa (txt r).1 HM.out ho' hg' hv'
          have BB := hNa.nb.grownR hg' (fun e => by have := hon.lt _ e; omega)
          have e3 := BB.free 3
          have b3 := (cell5 BB).2.2.2.1
          clear BB
          obtain ⟨A7, c7, rfl, -, -⟩ := own_shape ho'
          obtain ⟨hM3, hN3⟩ := hQ
          clear hon ho' hg' hv' hM hN hNa
          refine hK.out _ _ ?_ (fun hNew => ?_)
          · exact trivial
          clear hK K hHeld
          have hHeld := hNew
          clear hNew
          try simp only [Act.put, pz1, pz2, pz3]
          refine tk 6 ?_; try simp only [Act.put, pz1, pz2, pz3]
          refine wpAnyH_ready (rs := [7]) (by kernel_rfl) (by simp) ?_
          refine AllReadyH.cons (o := ⟨none, .store 49 (.tmp 64) (.tmp 63), 0, "coding.go:113", #[⟨6, .data⟩, ⟨5, .data⟩, ⟨5, .chain⟩, ⟨0, .phase⟩, ⟨1, .phase⟩, ⟨2, .phase⟩, ⟨3, .phase⟩, ⟨4, .phase⟩, ⟨5, .phase⟩], none⟩) rfl (fun K hK => ?_) AllReadyH.nil
          go_simp
          refine hK.out _ _ ?_ (fun hNew => ?_)
          · exact trivial
          clear hK K hHeld
          have hHeld := hNew
          clear hNew
          try simp only [Act.put, pz1, pz2, pz3]
          refine wpAnyH_done (by kernel_rfl) ?_ _
          refine NoPanic.normal ?_
          clear hHeld
          go_wp2_with fail
          go_step3
          exact (show ∃ m, m < N ∧ JJ w0 (rAll b) 4 m _ _ from ⟨600 * j + 300 + K, by omega, Or.inr (Or.inr (Or.inl ⟨rfl, J4.mk (h := { h with tg := h.tg ++ [(txt r).1] }) (k := K) (j := j) ⟨hM3, hN3, HKZ, Lib.hid ⟨hlb.out.1, by have := hlb.out.2.1; have := HM.out; simp; omega, hlb.out.2.2⟩, Lib.hid hF.out, Nat.le_refl _⟩⟩))⟩)
        · go_simp
          (go_at_call 32; ((with_reducible refine (rname_any _ _ _ _ hM.rp (Nat.le_add_right _ _)).mono ?_); rintro e' w2 ⟨rfl, hp, hg⟩; have hM := hM.call hg hp; have hN := hN.call hg; clear hp hg; (try clear b0 b1 b2 b3 b4 e0 e1 e2 e3 e4); obtain ⟨b0, b1, b2, b3, b4⟩ := cell5 hN.nb; have e0 := hN.nb.free 0; have e1 := hN.nb.free 1; have e2 := hN.nb.free 2; have e3 := hN.nb.free 3; have e4 := hN.nb.free 4; have ba := (cell5 (hN.nb.alloc_ (.cells #[.string (txt r).1] 9))).2.2.2.1))
          go_wp2_with fail
          refine hK.out _ _ ?_ (fun hNew => ?_)
          · exact trivial
          clear hK K hHeld
          have hHeld := hNew
          clear hNew
          try simp only [Act.put, pz1, pz2, pz3]
          refine wpAnyH_ready (rs := [1, 4]) (by kernel_rfl) (by simp) ?_
          refine (AllReadyH.cons (o := ⟨some 59, .load 49 (.tmp 58), 49, "coding.go:113", #[⟨0, .data⟩], none⟩) rfl (fun K hK => ?_) (AllReadyH.cons (o := ⟨some 62, .buildSlice 49 1 #[(0, .tmp 61)], 49, "coding.go:113", #[⟨3, .data⟩], none⟩) rfl (fun K hK => ?_) AllReadyH.nil))
          · go_simp
            refine hK.out _ _ ?_ (fun hNew => ?_)
            · exact trivial
            clear hK K hHeld
            have hHeld := hNew
            clear hNew
            try simp only [Act.put, pz1, pz2, pz3]
            refine wpAnyH_ready (rs := [4]) (by kernel_rfl) (by simp) ?_
            refine AllReadyH.cons (o := ⟨some 62, .buildSlice 49 1 #[(0, .tmp 61)], 49, "coding.go:113", #[⟨3, .data⟩], none⟩) rfl (fun K hK => ?_) AllReadyH.nil
            go_simp
            refine hK.out _ _ ?_ (fun hNew => ?_)
            · exact trivial
            clear hK K hHeld
            have hHeld := hNew
            clear hNew
            try simp only [Act.put, pz1, pz2, pz3]
            refine wpAnyH_ready (rs := [5]) (by kernel_rfl) (by simp) ?_
            refine AllReadyH.cons (o := ⟨some 63, .call { callee := .builtin .append, args := #[.tmp 59, .tmp 62], argTypes := #[49, 49] }, 49, "coding.go:113", #[⟨1, .data⟩, ⟨4, .data⟩, ⟨3, .chain⟩], none⟩) rfl (fun K hK => ?_) AllReadyH.nil
            obtain ⟨ti0, hi, hz0, hz1, hz2⟩ := info_parts info_clStr
            have hMa := hM.below ((Below.refl _ _).alloc (Nat.le_refl _) (.cells #[.string (txt r).1] 9))
            have hNa := hN.below ((Below.refl _ _).alloc (Nat.le_refl _) (.cells #[.string (txt r).1] 9))
            have hon := hNa.tg
            rw [HM.out] at hon
            refine step_app _ rfl (.tmp 59) (.tmp 62) _ rfl (w0.heap.size + 4) 9 ti0 _ 1 16 Tryd.underlying49 hi hz0 hz1 hz2 rfl (by decide) _ m (h.tg.map strV) rfl hon _ 1 _ [strV (txt r).1] rfl (rd_new1 _ _ _ rfl) (oneS _) (by unfold maxLen; omega) (by omega) hMa.size ?_
            intro v7 w7 ho' hg' hv'
            clear hi hz0 hz1 hz2
            have hQ := hMa.tag hNa (txt r).1 HM.out ho' hg' hv'
            have BB := hNa.nb.grownR hg' (fun e => by have := hon.lt _ e; omega)
            have e3 := BB.free 3
            have b3 := (cell5 BB).2.2.2.1
            clear BB
            obtain ⟨A7, c7, rfl, -, -⟩ := own_shape ho'
            obtain ⟨hM3, hN3⟩ := hQ
            clear hon ho' hg' hv' hM hN hNa
            refine hK.out _ _ ?_ (fun hNew => ?_)
            · exact trivial
            clear hK K hHeld
            have hHeld := hNew
            clear hNew
            try simp only [Act.put, pz1, pz2, pz3]
            refine tk 6 ?_; try simp only [Act.put, pz1, pz2, pz3]
            refine wpAnyH_ready (rs := [7]) (by kernel_rfl) (by simp) ?_
            refine AllReadyH.cons (o := ⟨none, .store 49 (.tmp 64) (.tmp 63), 0, "coding.go:113", #[⟨6, .data⟩, ⟨5, .data⟩, ⟨5, .chain⟩, ⟨0, .phase⟩, ⟨1, .phase⟩, ⟨2, .phase⟩, ⟨3, .phase⟩, ⟨4, .phase⟩, ⟨5, .phase⟩], none⟩) rfl (fun K hK => ?_) AllReadyH.nil
            go_simp
            refine hK.out _ _ ?_ (fun hNew => ?_)
            · exact trivial
            clear hK K hHeld
            have hHeld := hNew
            clear hNew
            try simp only [Act.put, pz1, pz2, pz3]
            refine wpAnyH_done (by kernel_rfl) ?_ _
            refine NoPanic.normal ?_
            clear hHeld
            go_wp2_with fail
            go_step3
            exact (show ∃ m, m < N ∧ JJ w0 (rAll b) 4 m _ _ from ⟨600 * j + 300 + K, by omega, Or.inr (Or.inr (Or.inl ⟨rfl, J4.mk (h := { h with tg := h.tg ++ [(txt r).1] }) (k := K) (j := j) ⟨hM3, hN3, HKZ, Lib.hid ⟨hlb.out.1, by have := hlb.out.2.1; have := HM.out; simp; omega, hlb.out.2.2⟩, Lib.hid hF.out, Nat.le_refl _⟩⟩))⟩)
          · go_simp
            refine hK.out _ _ ?_ (fun hNew => ?_)
            · exact trivial
            clear hK K hHeld
            have hHeld := hNew
            clear hNew
            try simp only [Act.put, pz1, pz2, pz3]
            refine wpAnyH_ready (rs := [1]) (by kernel_rfl) (by simp) ?_
            refine AllReadyH.cons (o := ⟨some 59, .load 49 (.tmp 58), 49, "coding.go:113", #[⟨0, .data⟩], none⟩) rfl (fun K hK => ?_) AllReadyH.nil
            go_simp
            refine hK.out _ _ ?_ (fun hNew => ?_)
            · exact trivial
            clear hK K hHeld
            have hHeld := hNew
            clear hNew
            try simp only [Act.put, pz1, pz2, pz3]
            refine wpAnyH_ready (rs := [5]) (by kernel_rfl) (by simp) ?_
            refine AllReadyH.cons (o := ⟨some 63, .call { callee := .builtin .append, args := #[.tmp 59, .tmp 62], argTypes := #[49, 49] }, 49, "coding.go:113", #[⟨1, .data⟩, ⟨4, .data⟩, ⟨3, .chain⟩], none⟩) rfl (fun K hK => ?_) AllReadyH.nil
            obtain ⟨ti0, hi, hz0, hz1, hz2⟩ := info_parts info_clStr
            have hMa := hM.below ((Below.refl _ _).alloc (Nat.le_refl _) (.cells #[.string (txt r).1] 9))
            have hNa := hN.below ((Below.refl _ _).alloc (Nat.le_refl _) (.cells #[.string (txt r).1] 9))
            have hon := hNa.tg
            rw [HM.out] at hon
            refine step_app _ rfl (.tmp 59) (.tmp 62) _ rfl (w0.heap.size + 4) 9 ti0 _ 1 16 Tryd.underlying49 hi hz0 hz1 hz2 rfl (by decide) _ m (h.tg.map strV) rfl hon _ 1 _ [strV (txt r).1] rfl (rd_new1 _ _ _ rfl) (oneS _) (by unfold maxLen; omega) (by omega) hMa.size ?_
            intro v7 w7 ho' hg' hv'
            clear hi hz0 hz1 hz2
            have hQ := hMa.tag hNa (txt r).1 HM.out ho' hg' hv'
            have BB := hNa.nb.grownR hg' (fun e => by have := hon.lt _ e; omega)
            have e3 := BB.free 3
            have b3 := (cell5 BB).2.2.2.1
            clear BB
            obtain ⟨A7, c7, rfl, -, -⟩ := own_shape ho'
            obtain ⟨hM3, hN3⟩ := hQ
            clear hon ho' hg' hv' hM hN hNa
            refine hK.out _ _ ?_ (fun hNew => ?_)
            · exact trivial
            clear hK K hHeld
            have hHeld := hNew
            clear hNew
            try simp only [Act.put, pz1, pz2, pz3]
            refine tk 6 ?_; try simp only [Act.put, pz1, pz2, pz3]
            refine wpAnyH_ready (rs := [7]) (by kernel_rfl) (by simp) ?_
            refine AllReadyH.cons (o := ⟨none, .store 49 (.tmp 64) (.tmp 63), 0, "coding.go:113", #[⟨6, .data⟩, ⟨5, .data⟩, ⟨5, .chain⟩, ⟨0, .phase⟩, ⟨1, .phase⟩, ⟨2, .phase⟩, ⟨3, .phase⟩, ⟨4, .phase⟩, ⟨5, .phase⟩], none⟩) rfl (fun K hK => ?_) AllReadyH.nil
            go_simp
            refine hK.out _ _ ?_ (fun hNew => ?_)
            · exact trivial
            clear hK K hHeld
            have hHeld := hNew
            clear hNew
            try simp only [Act.put, pz1, pz2, pz3]
            refine wpAnyH_done (by kernel_rfl) ?_ _
            refine NoPanic.normal ?_
            clear hHeld
            go_wp2_with fail
            go_step3
            exact (show ∃ m, m < N ∧ JJ w0 (rAll b) 4 m _ _ from ⟨600 * j + 300 + K, by omega, Or.inr (Or.inr (Or.inl ⟨rfl, J4.mk (h := { h with tg := h.tg ++ [(txt r).1] }) (k := K) (j := j) ⟨hM3, hN3, HKZ, Lib.hid ⟨hlb.out.1, by have := hlb.out.2.1; have := HM.out; simp; omega, hlb.out.2.2⟩, Lib.hid hF.out, Nat.le_refl _⟩⟩))⟩)
    · obtain ⟨j, k, s, h, vt, vs, vb, vn, es, r, jz, kz, u, rfl, hM, hN, hz, hlb, hF, hn1⟩ := hJ
      refine ⟨_, (by simp only [findLabel, Nat.reduceBEq, if_true, if_false, Bool.false_eq_true]; rfl), ?_⟩
      have j2 : jz ≤ 255 := by have := hz.out; have := hlb.out; omega
      have j3 : 0 ≤ jz := by have := hz.out; omega
      by_cases hk0 : k = 0
      · subst hk0
        obtain rfl : kz = 0 := hz.out.2
        obtain ⟨An, cn, rfl, -, -⟩ := own_shape hM.on
        obtain ⟨At, ct, rfl, -, -⟩ := own_shape hN.tg
        obtain ⟨As, cs, rfl, -, -⟩ := own_shape hN.sh
        obtain ⟨m, hm⟩ : ∃ m, s.ts.length = m := ⟨_, rfl⟩
        obtain ⟨m1, hm1⟩ : ∃ m, h.tg.length = m := ⟨_, rfl⟩
        obtain ⟨m3, hm3⟩ : ∃ m, h.sh.length = m := ⟨_, rfl⟩
        rw [hm] at hM
        rw [hm1, hm3] at hN
        have hm2 : m ≤ 255 := by have := hlb.out; omega
        have HM := Lib.hid hm
        clear hm hm1 hm3
        obtain ⟨k0, k1, k2, k3, k4⟩ := cell5 hM.sb
        have f0 := hM.sb.free 0
        have f1 := hM.sb.free 1
        have f2 := hM.sb.free 2
        have f3 := hM.sb.free 3
        have f4 := hM.sb.free 4
        obtain ⟨b0, b1, b2, b3, b4⟩ := cell5 hN.nb
        have e0 := hN.nb.free 0
        have e1 := hN.nb.free 1
        have e2 := hN.nb.free 2
        have e3 := hN.nb.free 3
        have e4 := hN.nb.free 4
        have hMa := hM.below ((Below.refl _ _).alloc (Nat.le_refl _) (.cells #[.int .i64 h.id, .int .i64 h.bk, .string h.nm, .slice At m1 ct, .slice As m3 cs] 52))
        have hNa := hN.below ((Below.refl _ _).alloc (Nat.le_refl _) (.cells #[.int .i64 h.id, .int .i64 h.bk, .string h.nm, .slice At m1 ct, .slice As m3 cs] 52))
        have hon := hMa.on
        rw [HM.out] at hon
        go_wp2_with (at_builtin; obtain ⟨ti0, hi, hz0, hz1, hz2⟩ := info_parts info_clNt; refine wpList_app _ rfl (.tmp 70) (.tmp 72) _ rfl (w0.heap.size + 4) 52 ti0 _ 5 80 Tryd.underlying23 hi hz0 hz1 hz2 rfl (by decide) _ m es.flatten rfl hon _ 1 _ (ntC h (.slice At m1 ct) (.slice As m3 cs)) rfl (rd_newNt _ h _ _ rfl) (oneN _ _ _ _ _ _ _) (by unfold maxLen; omega) (by omega) hMa.size ?_; intro v7 w7 ho' hg' hv'; clear hi hz0 hz1 hz2 hv'; (have hQ := hMa.note hNa HM.out ho' hg'); (have BB := hMa.sb.grownR hg' (fun e => by have := hon.lt _ e; omega)); (have f4 := BB.free 4); (have k4 := (cell5 BB).2.2.2.2); clear BB; obtain ⟨A7, c7, rfl, -, -⟩ := own_shape ho'; obtain ⟨hM3, hX3⟩ := hQ; clear hon ho' hg' hM hN hNa)
        go_step3
        exact (show ∃ m, m < N ∧ JJ w0 (rAll b) 0 m _ _ from ⟨600 * j + 1, by omega, Or.inr (Or.inl ⟨rfl, J0.mk (s := { s with ts := s.ts ++ [h] }) (j := j) ⟨hM3, ⟨_, _, _, _, _, hX3⟩, Lib.hid hz.out.1, Lib.hid (by have := hlb.out.1; have := HM.out; simp; omega), Lib.hid hF.out, Nat.le_refl _⟩⟩)⟩)
      · obtain ⟨K, rfl⟩ : ∃ K, k = K + 1 := ⟨k - 1, by omega⟩
        have l0 : ¬ kz = 0 := by have := hz.out; omega
        have l1 : 1 ≤ kz := by have := hz.out; omega
        have l2 : kz ≤ 255 := by have := hz.out; have := hlb.out; omega
        have HKZ : Hid (jz = (j : Int) ∧ kz - 1 = (K : Int)) := Lib.hid (by have := hz.out; omega)
        obtain ⟨At, ct, rfl, -, -⟩ := own_shape hN.sh
        obtain ⟨m, hm⟩ : ∃ m, h.sh.length = m := ⟨_, rfl⟩
        rw [hm] at hN
        have hm2 : m ≤ 255 := by have := hlb.out; omega
        have HM := Lib.hid hm
        clear hm hk0
        go_upto_region 21 with fail
        replace hM := hM.below (drew_below (Below.refl _ wr))
        replace hN := hN.below (drew_below (Below.refl _ wr))
        obtain ⟨b0, b1, b2, b3, b4⟩ := cell5 hN.nb
        have e0 := hN.nb.free 0
        have e1 := hN.nb.free 1
        have e2 := hN.nb.free 2
        have e3 := hN.nb.free 3
        have e4 := hN.nb.free 4
        refine wp_region_noPanic ?_
        refine wp_region_held_drew (S := (fun _ => True)) (by kernel_rfl) ?_ (fun hHeld => ?_)
        · exact trivial
        refine tk 0 ?_; try simp only [Act.put, pz1, pz2, pz3]
        refine tk 2 ?_; try simp only [Act.put, pz1, pz2, pz3]
        refine wpAnyH_ready (rs := [1, 3]) (by kernel_rfl) (by simp) ?_
        refine (AllReadyH.cons (o := ⟨some 76, .load 50 (.tmp 75), 50, "coding.go:122", #[⟨0, .data⟩], none⟩) rfl (fun K hK => ?_) (AllReadyH.cons (o := ⟨some 78, .call { callee := .value (.func 31), args := #[.tmp 77, .const (.int .i64 2)], argTypes := #[57, 3] }, 3, "coding.go:122", #[⟨2, .data⟩], none⟩) rfl (fun K hK => ?_) AllReadyH.nil))
        · go_simp
          refine hK.out _ _ ?_ (fun hNew => ?_)
          · exact trivial
          clear hK K hHeld
          have hHeld := hNew
          clear hNew
          try simp only [Act.put, pz1, pz2, pz3]
          refine wpAnyH_ready (rs := [3]) (by kernel_rfl) (by simp) ?_
          refine AllReadyH.cons (o := ⟨some 78, .call { callee := .value (.func 31), args := #[.tmp 77, .const (.int .i64 2)], argTypes := #[57, 3] }, 3, "coding.go:122", #[⟨2, .data⟩], none⟩) rfl (fun K hK => ?_) AllReadyH.nil
          go_simp
          (go_at_call 31; (have TK1 : Calls Tryd.prog 31 #[.pointer (some ⟨w0.heap.size + 3, 0, none⟩), .int .i64 2] _ _ := rnumb2 _ _ _ _ hM.rp (Nat.le_add_right _ _)); ((with_reducible refine TK1.mono ?_); rintro e' w2 ⟨rfl, hp, hg⟩; (try clear TK1); have hM := hM.call hg hp; have hN := hN.call hg; clear hp hg; (try clear b0 b1 b2 b3 b4 e0 e1 e2 e3 e4); obtain ⟨b0, b1, b2, b3, b4⟩ := cell5 hN.nb; have e0 := hN.nb.free 0; have e1 := hN.nb.free 1; have e2 := hN.nb.free 2; have e3 := hN.nb.free 3; have e4 := hN.nb.free 4; have ba := (cell5 (hN.nb.alloc_ (.cells #[.int .i64 ((nmb 2 r).1 : Int)] 3))).2.2.2.2))
          go_wp2_with fail
          refine hK.out _ _ ?_ (fun hNew => ?_)
          · exact trivial
          clear hK K hHeld
          have hHeld := hNew
          clear hNew
          try simp only [Act.put, pz1, pz2, pz3]
          refine wpAnyH_ready (rs := [4]) (by kernel_rfl) (by simp) ?_
          refine AllReadyH.cons (o := ⟨some 79, .buildSlice 50 1 #[(0, .tmp 78)], 50, "coding.go:122", #[⟨3, .data⟩], none⟩) rfl (fun K hK => ?_) AllReadyH.nil
          go_simp
          refine hK.out _ _ ?_ (fun hNew => ?_)
          · exact trivial
          clear hK K hHeld
          have hHeld := hNew
          clear hNew
          try simp only [Act.put, pz1, pz2, pz3]
          refine wpAnyH_ready (rs := [5]) (by kernel_rfl) (by simp) ?_
          refine AllReadyH.cons (o := ⟨some 80, .call { callee := .builtin .append, args := #[.tmp 76, .tmp 79], argTypes := #[50, 50] }, 50, "coding.go:122", #[⟨1, .data⟩, ⟨4, .data⟩, ⟨3, .chain⟩], none⟩) rfl (fun K hK => ?_) AllReadyH.nil
          obtain ⟨ti0, hi, hz0, hz1, hz2⟩ := info_parts info_clInt
          have hMa := hM.below ((Below.refl _ _).alloc (Nat.le_refl _) (.cells #[.int .i64 ((nmb 2 r).1 : Int)] 3))
          have hNa := hN.below ((Below.refl _ _).alloc (Nat.le_refl _) (.cells #[.int .i64 ((nmb 2 r).1 : Int)] 3))
          have hon := hNa.sh
          rw [HM.out] at hon
          refine step_app _ rfl (.tmp 76) (.tmp 79) _ rfl (w0.heap.size + 4) 3 ti0 _ 1 8 Tryd.underlying50 hi hz0 hz1 hz2 rfl (by decide) _ m (h.sh.map (Value.int .i64)) rfl hon _ 1 _ [.int .i64 ((nmb 2 r).1 : Int)] rfl (rd_new1 _ _ _ rfl) (oneI _) (by unfold maxLen; omega) (by omega) hMa.size ?_
          intro v7 w7 ho' hg' hv'
          clear hi hz0 hz1 hz2
          have hQ := hMa.sheet hNa ((nmb 2 r).1 : Int) HM.out ho' hg' hv'
          have BB := hNa.nb.grownR hg' (fun e => by have := hon.lt _ e; omega)
          have e4 := BB.free 4
          have b4 := (cell5 BB).2.2.2.2
          clear BB
          obtain ⟨A7, c7, rfl, -, -⟩ := own_shape ho'
          obtain ⟨hM3, hN3⟩ := hQ
          clear hon ho' hg' hv' hM hN hNa
          refine hK.out _ _ ?_ (fun hNew => ?_)
          · exact trivial
          clear hK K hHeld
          have hHeld := hNew
          clear hNew
          try simp only [Act.put, pz1, pz2, pz3]
          refine tk 6 ?_; try simp only [Act.put, pz1, pz2, pz3]
          refine wpAnyH_ready (rs := [7]) (by kernel_rfl) (by simp) ?_
          refine AllReadyH.cons (o := ⟨none, .store 50 (.tmp 81) (.tmp 80), 0, "coding.go:122", #[⟨6, .data⟩, ⟨5, .data⟩, ⟨5, .chain⟩, ⟨0, .phase⟩, ⟨1, .phase⟩, ⟨2, .phase⟩, ⟨3, .phase⟩, ⟨4, .phase⟩, ⟨5, .phase⟩], none⟩) rfl (fun K hK => ?_) AllReadyH.nil
          go_simp
          refine hK.out _ _ ?_ (fun hNew => ?_)
          · exact trivial
          clear hK K hHeld
          have hHeld := hNew
          clear hNew
          try simp only [Act.put, pz1, pz2, pz3]
          refine wpAnyH_done (by kernel_rfl) ?_ _
          refine NoPanic.normal ?_
          clear hHeld
          go_wp2_with fail
          go_step3
          exact (show ∃ m, m < N ∧ JJ w0 (rAll b) 3 m _ _ from ⟨600 * j + 2 + K, by omega, Or.inr (Or.inr (Or.inr (Or.inl ⟨rfl, J3.mk (h := { h with sh := h.sh ++ [((nmb 2 r).1 : Int)] }) (k := K) (j := j) ⟨hM3, hN3, HKZ, Lib.hid ⟨hlb.out.1, by have := hlb.out.2; have := HM.out; simp; omega⟩, Lib.hid hF.out, Nat.le_refl _⟩⟩)))⟩)
        · go_simp
          (go_at_call 31; (have TK1 : Calls Tryd.prog 31 #[.pointer (some ⟨w0.heap.size + 3, 0, none⟩), .int .i64 2] _ _ := rnumb2 _ _ _ _ hM.rp (Nat.le_add_right _ _)); ((with_reducible refine TK1.mono ?_); rintro e' w2 ⟨rfl, hp, hg⟩; (try clear TK1); have hM := hM.call hg hp; have hN := hN.call hg; clear hp hg; (try clear b0 b1 b2 b3 b4 e0 e1 e2 e3 e4); obtain ⟨b0, b1, b2, b3, b4⟩ := cell5 hN.nb; have e0 := hN.nb.free 0; have e1 := hN.nb.free 1; have e2 := hN.nb.free 2; have e3 := hN.nb.free 3; have e4 := hN.nb.free 4; have ba := (cell5 (hN.nb.alloc_ (.cells #[.int .i64 ((nmb 2 r).1 : Int)] 3))).2.2.2.2))
          go_wp2_with fail
          refine hK.out _ _ ?_ (fun hNew => ?_)
          · exact trivial
          clear hK K hHeld
          have hHeld := hNew
          clear hNew
          try simp only [Act.put, pz1, pz2, pz3]
          refine wpAnyH_ready (rs := [1, 4]) (by kernel_rfl) (by simp) ?_
          refine (AllReadyH.cons (o := ⟨some 76, .load 50 (.tmp 75), 50, "coding.go:122", #[⟨0, .data⟩], none⟩) rfl (fun K hK => ?_) (AllReadyH.cons (o := ⟨some 79, .buildSlice 50 1 #[(0, .tmp 78)], 50, "coding.go:122", #[⟨3, .data⟩], none⟩) rfl (fun K hK => ?_) AllReadyH.nil))
          · go_simp
            refine hK.out _ _ ?_ (fun hNew => ?_)
            · exact trivial
            clear hK K hHeld
            have hHeld := hNew
            clear hNew
            try simp only [Act.put, pz1, pz2, pz3]
            refine wpAnyH_ready (rs := [4]) (by kernel_rfl) (by simp) ?_
            refine AllReadyH.cons (o := ⟨some 79, .buildSlice 50 1 #[(0, .tmp 78)], 50, "coding.go:122", #[⟨3, .data⟩], none⟩) rfl (fun K hK => ?_) AllReadyH.nil
            go_simp
            refine hK.out _ _ ?_ (fun hNew => ?_)
            · exact trivial
            clear hK K hHeld
            have hHeld := hNew
            clear hNew
            try simp only [Act.put, pz1, pz2, pz3]
            refine wpAnyH_ready (rs := [5]) (by kernel_rfl) (by simp) ?_
            refine AllReadyH.cons (o := ⟨some 80, .call { callee := .builtin .append, args := #[.tmp 76, .tmp 79], argTypes := #[50, 50] }, 50, "coding.go:122", #[⟨1, .data⟩, ⟨4, .data⟩, ⟨3, .chain⟩], none⟩) rfl (fun K hK => ?_) AllReadyH.nil
            obtain ⟨ti0, hi, hz0, hz1, hz2⟩ := info_parts info_clInt
            have hMa := hM.below ((Below.refl _ _).alloc (Nat.le_refl _) (.cells #[.int .i64 ((nmb 2 r).1 : Int)] 3))
            have hNa := hN.below ((Below.refl _ _).alloc (Nat.le_refl _) (.cells #[.int .i64 ((nmb 2 r).1 : Int)] 3))
            have hon := hNa.sh
            rw [HM.out] at hon
            refine step_app _ rfl (.tmp 76) (.tmp 79) _ rfl (w0.heap.size + 4) 3 ti0 _ 1 8 Tryd.underlying50 hi hz0 hz1 hz2 rfl (by decide) _ m (h.sh.map (Value.int .i64)) rfl hon _ 1 _ [.int .i64 ((nmb 2 r).1 : Int)] rfl (rd_new1 _ _ _ rfl) (oneI _) (by unfold maxLen; omega) (by omega) hMa.size ?_
            intro v7 w7 ho' hg' hv'
            clear hi hz0 hz1 hz2
            have hQ := hMa.sheet hNa ((nmb 2 r).1 : Int) HM.out ho' hg' hv'
            have BB := hNa.nb.grownR hg' (fun e => by have := hon.lt _ e; omega)
            have e4 := BB.free 4
            have b4 := (cell5 BB).2.2.2.2
            clear BB
            obtain ⟨A7, c7, rfl, -, -⟩ := own_shape ho'
            obtain ⟨hM3, hN3⟩ := hQ
            clear hon ho' hg' hv' hM hN hNa
            refine hK.out _ _ ?_ (fun hNew => ?_)
            · exact trivial
            clear hK K hHeld
            have hHeld := hNew
            clear hNew
            try simp only [Act.put, pz1, pz2, pz3]
            refine tk 6 ?_; try simp only [Act.put, pz1, pz2, pz3]
            refine wpAnyH_ready (rs := [7]) (by kernel_rfl) (by simp) ?_
            refine AllReadyH.cons (o := ⟨none, .store 50 (.tmp 81) (.tmp 80), 0, "coding.go:122", #[⟨6, .data⟩, ⟨5, .data⟩, ⟨5, .chain⟩, ⟨0, .phase⟩, ⟨1, .phase⟩, ⟨2, .phase⟩, ⟨3, .phase⟩, ⟨4, .phase⟩, ⟨5, .phase⟩], none⟩) rfl (fun K hK => ?_) AllReadyH.nil
            go_simp
            refine hK.out _ _ ?_ (fun hNew => ?_)
            · exact trivial
            clear hK K hHeld
            have hHeld := hNew
            clear hNew
            try simp only [Act.put, pz1, pz2, pz3]
            refine wpAnyH_done (by kernel_rfl) ?_ _
            refine NoPanic.normal ?_
            clear hHeld
            go_wp2_with fail
            go_step3
            exact (show ∃ m, m < N ∧ JJ w0 (rAll b) 3 m _ _ from ⟨600 * j + 2 + K, by omega, Or.inr (Or.inr (Or.inr (Or.inl ⟨rfl, J3.mk (h := { h with sh := h.sh ++ [((nmb 2 r).1 : Int)] }) (k := K) (j := j) ⟨hM3, hN3, HKZ, Lib.hid ⟨hlb.out.1, by have := hlb.out.2; have := HM.out; simp; omega⟩, Lib.hid hF.out, Nat.le_refl _⟩⟩)))⟩)
          · go_simp
            refine hK.out _ _ ?_ (fun hNew => ?_)
            · exact trivial
            clear hK K hHeld
            have hHeld := hNew
            clear hNew
            try simp only [Act.put, pz1, pz2, pz3]
            refine wpAnyH_ready (rs := [1]) (by kernel_rfl) (by simp) ?_
            refine AllReadyH.cons (o := ⟨some 76, .load 50 (.tmp 75), 50, "coding.go:122", #[⟨0, .data⟩], none⟩) rfl (fun K hK => ?_) AllReadyH.nil
            go_simp
            refine hK.out _ _ ?_ (fun hNew => ?_)
            · exact trivial
            clear hK K hHeld
            have hHeld := hNew
            clear hNew
            try simp only [Act.put, pz1, pz2, pz3]
            refine wpAnyH_ready (rs := [5]) (by kernel_rfl) (by simp) ?_
            refine AllReadyH.cons (o := ⟨some 80, .call { callee := .builtin .append, args := #[.tmp 76, .tmp 79], argTypes := #[50, 50] }, 50, "coding.go:122", #[⟨1, .data⟩, ⟨4, .data⟩, ⟨3, .chain⟩], none⟩) rfl (fun K hK => ?_) AllReadyH.nil
            obtain ⟨ti0, hi, hz0, hz1, hz2⟩ := info_parts info_clInt
            have hMa := hM.below ((Below.refl _ _).alloc (Nat.le_refl _) (.cells #[.int .i64 ((nmb 2 r).1 : Int)] 3))
            have hNa := hN.below ((Below.refl _ _).alloc (Nat.le_refl _) (.cells #[.int .i64 ((nmb 2 r).1 : Int)] 3))
            have hon := hNa.sh
            rw [HM.out] at hon
            refine step_app _ rfl (.tmp 76) (.tmp 79) _ rfl (w0.heap.size + 4) 3 ti0 _ 1 8 Tryd.underlying50 hi hz0 hz1 hz2 rfl (by decide) _ m (h.sh.map (Value.int .i64)) rfl hon _ 1 _ [.int .i64 ((nmb 2 r).1 : Int)] rfl (rd_new1 _ _ _ rfl) (oneI _) (by unfold maxLen; omega) (by omega) hMa.size ?_
            intro v7 w7 ho' hg' hv'
            clear hi hz0 hz1 hz2
            have hQ := hMa.sheet hNa ((nmb 2 r).1 : Int) HM.out ho' hg' hv'
            have BB := hNa.nb.grownR hg' (fun e => by have := hon.lt _ e; omega)
            have e4 := BB.free 4
            have b4 := (cell5 BB).2.2.2.2
            clear BB
            obtain ⟨A7, c7, rfl, -, -⟩ := own_shape ho'
            obtain ⟨hM3, hN3⟩ := hQ
            clear hon ho' hg' hv' hM hN hNa
            refine hK.out _ _ ?_ (fun hNew => ?_)
            · exact trivial
            clear hK K hHeld
            have hHeld := hNew
            clear hNew
            try simp only [Act.put, pz1, pz2, pz3]
            refine tk 6 ?_; try simp only [Act.put, pz1, pz2, pz3]
            refine wpAnyH_ready (rs := [7]) (by kernel_rfl) (by simp) ?_
            refine AllReadyH.cons (o := ⟨none, .store 50 (.tmp 81) (.tmp 80), 0, "coding.go:122", #[⟨6, .data⟩, ⟨5, .data⟩, ⟨5, .chain⟩, ⟨0, .phase⟩, ⟨1, .phase⟩, ⟨2, .phase⟩, ⟨3, .phase⟩, ⟨4, .phase⟩, ⟨5, .phase⟩], none⟩) rfl (fun K hK => ?_) AllReadyH.nil
            go_simp
            refine hK.out _ _ ?_ (fun hNew => ?_)
            · exact trivial
            clear hK K hHeld
            have hHeld := hNew
            clear hNew
            try simp only [Act.put, pz1, pz2, pz3]
            refine wpAnyH_done (by kernel_rfl) ?_ _
            refine NoPanic.normal ?_
            clear hHeld
            go_wp2_with fail
            go_step3
            exact (show ∃ m, m < N ∧ JJ w0 (rAll b) 3 m _ _ from ⟨600 * j + 2 + K, by omega, Or.inr (Or.inr (Or.inr (Or.inl ⟨rfl, J3.mk (h := { h with sh := h.sh ++ [((nmb 2 r).1 : Int)] }) (k := K) (j := j) ⟨hM3, hN3, HKZ, Lib.hid ⟨hlb.out.1, by have := hlb.out.2; have := HM.out; simp; omega⟩, Lib.hid hF.out, Nat.le_refl _⟩⟩)))⟩)
    · obtain ⟨s, vb, vn, es, r, u, rfl, hM, hF⟩ := hJ
      refine ⟨_, (by simp only [findLabel, Nat.reduceBEq, if_true, if_false, Bool.false_eq_true]; rfl), ?_⟩
      obtain ⟨Ab, cb, rfl, -, -⟩ := own_shape hM.bk
      obtain ⟨An, cn, rfl, -, -⟩ := own_shape hM.on
      obtain ⟨l1, hl1⟩ : ∃ m, s.bs.length = m := ⟨_, rfl⟩
      obtain ⟨l2, hl2⟩ : ∃ m, s.ts.length = m := ⟨_, rfl⟩
      rw [hl1, hl2] at hM
      clear hl1 hl2
      obtain ⟨bs, sh⟩ := r
      obtain ⟨k0, k1, k2, k3, k4⟩ := cell5 hM.sb
      have f0 := hM.sb.free 0
      have f1 := hM.sb.free 1
      have f2 := hM.sb.free 2
      have f3 := hM.sb.free 3
      have f4 := hM.sb.free 4
      obtain ⟨z0, z1, z2, z3, z4⟩ := cell5 hM.zb
      have y0 := hM.zb.free 0
      have y1 := hM.zb.free 1
      have y2 := hM.zb.free 2
      have y3 := hM.zb.free 3
      have y4 := hM.zb.free 4
      obtain ⟨A9, c9, BR, -⟩ := hM.rp.ex
      obtain ⟨L, hL⟩ : ∃ m, bs.length = m := ⟨_, rfl⟩
      change Blk wr (w0.heap.size + 3) 59 #[.slice A9 bs.length c9, .bool sh] at BR
      rw [hL] at BR
      have x0 := BR.cell_ 0
      have x1 := BR.cell_ 1
      simp at x0 x1
      have HL := Lib.hid hL
      have hT1 : Tabs wr := Tabs.next HT.out hM.hB
      clear hL BR
      cases sh
      · by_cases hL0 : L = 0
        · subst hL0
          obtain rfl : bs = [] := List.length_eq_zero_iff.1 HL.out
          rcases (by cases hq : mayS s <;> simp : mayS s = true ∨ mayS s = false) with hm | hm
          · have HMY := Lib.hid hm
            clear hm
            go_wp2_with (go_at_call 23; ((with_reducible refine (smay_any s _ _ hM.toW.toR hT1 _ HMY.out).mono ?_); rintro e' w5 ⟨rfl, bx⟩; (have hM := hM.below bx); clear bx; (try clear k0 k1 k2 k3 k4 f0 f1 f2 f3 f4); (try clear z0 z1 z2 z3 z4 y0 y1 y2 y3 y4); obtain ⟨k0, k1, k2, k3, k4⟩ := cell5 hM.sb; have f0 := hM.sb.free 0; have f1 := hM.sb.free 1; have f2 := hM.sb.free 2; have f3 := hM.sb.free 3; have f4 := hM.sb.free 4; obtain ⟨z0, z1, z2, z3, z4⟩ := cell5 hM.zb; have y0 := hM.zb.free 0; have y1 := hM.zb.free 1; have y2 := hM.zb.free 2; have y3 := hM.zb.free 3; have y4 := hM.zb.free 4))
            refine jumpsQ_ret ?_
            have B2u := hM.zb.st5_ (.int .i64 s.nb) (.int .i64 s.nn) (.int .i64 s.ns) (.slice Ab l1 cb) (.slice An l2 cn)
            have hg2 := st5_grown w5 w0.heap.size 0 (.int .i64 s.nb) (.int .i64 s.nn) (.int .i64 s.ns) (.slice Ab l1 cb) (.slice An l2 cn)
            have hb2 := below_grown hM.hB hg2 (Nat.le_refl _) hM.hB.size
            have hbk := hM.bk.far hg2 (by omega)
            have hnt := NtsW.far ⟨es, hM.el, hM.on, hM.nt⟩ hg2 (by omega)
            change bodyPost _ _ _ _ _ (st5 w5 w0.heap.size 0 (.int .i64 s.nb) (.int .i64 s.nn) (.int .i64 s.ns) (.slice Ab l1 cb) (.slice An l2 cn))
            generalize st5 w5 w0.heap.size 0 (.int .i64 s.nb) (.int .i64 s.nn) (.int .i64 s.ns) (.slice Ab l1 cb) (.slice An l2 cn) = Wd at B2u hb2 hbk hnt ⊢
            apply bodyPost_ret (v := .tuple #[.agg #[.int .i64 s.nb, .int .i64 s.nn, .int .i64 s.ns, .slice Ab l1 cb, .slice An l2 cn], .int .i64 0])
            · exact results_cell1 Tryd.results18 _ Wd w0.heap.size 25 _ (0, 0) _ rfl B2u Tryd.underlying25 rfl (by kernel_rfl)
            · rfl
            · have HOK : okR b = true := by
                unfold okR
                rw [← hF.out]
                simp [HMY.out]
              exact ⟨⟨_, by rw [HOK]; rfl, by rw [HOK]; show ShW _ _ _ (rAll b).1; rw [← hF.out]; exact (ShW.make hbk hnt).base_ (Nat.le_add_right _ 4)⟩, hb2⟩
          · have HMY := Lib.hid hm
            clear hm
            go_wp2_with (go_at_call 23; ((with_reducible refine (smay_any s _ _ hM.toW.toR hT1 _ HMY.out).mono ?_); rintro e' w5 ⟨rfl, bx⟩; (have hM := hM.below bx); clear bx; (try clear k0 k1 k2 k3 k4 f0 f1 f2 f3 f4); (try clear z0 z1 z2 z3 z4 y0 y1 y2 y3 y4); obtain ⟨k0, k1, k2, k3, k4⟩ := cell5 hM.sb; have f0 := hM.sb.free 0; have f1 := hM.sb.free 1; have f2 := hM.sb.free 2; have f3 := hM.sb.free 3; have f4 := hM.sb.free 4; obtain ⟨z0, z1, z2, z3, z4⟩ := cell5 hM.zb; have y0 := hM.zb.free 0; have y1 := hM.zb.free 1; have y2 := hM.zb.free 2; have y3 := hM.zb.free 3; have y4 := hM.zb.free 4))
            refine jumpsQ_ret ?_
            have B2u := hM.zb.st5_ (.int .i64 0) (.int .i64 0) (.int .i64 0) (.slice none 0 0) (.slice none 0 0)
            have hb2 := below_grown hM.hB (st5_grown _ w0.heap.size 0 (.int .i64 0) (.int .i64 0) (.int .i64 0) (.slice none 0 0) (.slice none 0 0)) (Nat.le_refl _) hM.hB.size
            change bodyPost _ _ _ _ _ (st5 w5 w0.heap.size 0 (.int .i64 0) (.int .i64 0) (.int .i64 0) (.slice none 0 0) (.slice none 0 0))
            generalize st5 w5 w0.heap.size 0 (.int .i64 0) (.int .i64 0) (.int .i64 0) (.slice none 0 0) (.slice none 0 0) = Wd at B2u hb2 ⊢
            apply bodyPost_ret (v := .tuple #[.agg #[.int .i64 0, .int .i64 0, .int .i64 0, .slice none 0 0, .slice none 0 0], .int .i64 5])
            · exact results_cell1 Tryd.results18 _ Wd w0.heap.size 25 #[.int .i64 0, .int .i64 0, .int .i64 0, .slice none 0 0, .slice none 0 0] (0, 0) _ rfl B2u Tryd.underlying25 rfl (by kernel_rfl)
            · rfl
            · have HOK : okR b = false := by
                unfold okR
                rw [← hF.out]
                simp [HMY.out]
              exact ⟨⟨_, by rw [HOK]; rfl, by rw [HOK]; exact ShW.make (s := ⟨0, 0, 0, [], []⟩) (World.ownsRow_nil _ _ _ _) ⟨[], rfl, World.ownsRow_nil _ _ _ _, fun k n e a c => by simp at c⟩⟩, hb2⟩
        · have i0 : ¬ (L : Int) = 0 := by omega
          go_wp2_with fail
          refine jumpsQ_ret ?_
          have B2u := hM.zb.st5_ (.int .i64 0) (.int .i64 0) (.int .i64 0) (.slice none 0 0) (.slice none 0 0)
          have hb2 := below_grown hM.hB (st5_grown _ w0.heap.size 0 (.int .i64 0) (.int .i64 0) (.int .i64 0) (.slice none 0 0) (.slice none 0 0)) (Nat.le_refl _) hM.hB.size
          change bodyPost _ _ _ _ _ (st5 wr w0.heap.size 0 (.int .i64 0) (.int .i64 0) (.int .i64 0) (.slice none 0 0) (.slice none 0 0))
          generalize st5 wr w0.heap.size 0 (.int .i64 0) (.int .i64 0) (.int .i64 0) (.slice none 0 0) (.slice none 0 0) = Wd at B2u hb2 ⊢
          apply bodyPost_ret (v := .tuple #[.agg #[.int .i64 0, .int .i64 0, .int .i64 0, .slice none 0 0, .slice none 0 0], .int .i64 5])
          · exact results_cell1 Tryd.results18 _ Wd w0.heap.size 25 #[.int .i64 0, .int .i64 0, .int .i64 0, .slice none 0 0, .slice none 0 0] (0, 0) _ rfl B2u Tryd.underlying25 rfl (by kernel_rfl)
          · rfl
          · have HOK : okR b = false := by
              unfold okR
              rw [← hF.out]
              have h := HL.out; cases bs with | nil => exact absurd h.symm hL0 | cons x l => rfl
            exact ⟨⟨_, by rw [HOK]; rfl, by rw [HOK]; exact ShW.make (s := ⟨0, 0, 0, [], []⟩) (World.ownsRow_nil _ _ _ _) ⟨[], rfl, World.ownsRow_nil _ _ _ _, fun k n e a c => by simp at c⟩⟩, hb2⟩
      · go_wp2_with fail
        refine jumpsQ_ret ?_
        have B2u := hM.zb.st5_ (.int .i64 0) (.int .i64 0) (.int .i64 0) (.slice none 0 0) (.slice none 0 0)
        have hb2 := below_grown hM.hB (st5_grown _ w0.heap.size 0 (.int .i64 0) (.int .i64 0) (.int .i64 0) (.slice none 0 0) (.slice none 0 0)) (Nat.le_refl _) hM.hB.size
        change bodyPost _ _ _ _ _ (st5 wr w0.heap.size 0 (.int .i64 0) (.int .i64 0) (.int .i64 0) (.slice none 0 0) (.slice none 0 0))
        generalize st5 wr w0.heap.size 0 (.int .i64 0) (.int .i64 0) (.int .i64 0) (.slice none 0 0) (.slice none 0 0) = Wd at B2u hb2 ⊢
        apply bodyPost_ret (v := .tuple #[.agg #[.int .i64 0, .int .i64 0, .int .i64 0, .slice none 0 0, .slice none 0 0], .int .i64 5])
        · exact results_cell1 Tryd.results18 _ Wd w0.heap.size 25 #[.int .i64 0, .int .i64 0, .int .i64 0, .slice none 0 0, .slice none 0 0] (0, 0) _ rfl B2u Tryd.underlying25 rfl (by kernel_rfl)
        · rfl
        · have HOK : okR b = false := by
            unfold okR
            rw [← hF.out]
            rfl
          exact ⟨⟨_, by rw [HOK]; rfl, by rw [HOK]; exact ShW.make (s := ⟨0, 0, 0, [], []⟩) (World.ownsRow_nil _ _ _ _) ⟨[], rfl, World.ownsRow_nil _ _ _ _, fun k n e a c => by simp at c⟩⟩, hb2⟩
  · intro hcut
    have HC := Lib.hid hcut
    clear hcut
    obtain ⟨wz, hwz, hMz, hX, hsz⟩ := RdM.start w0 b n A c HH.out.1 HS.out HH.out.2 hc hcm n1 HA.out
    have HSZ := Lib.hid hsz
    clear hsz
    go_upto_region 5 with fail
    rw [← hwz]
    rw [show w0.heap.size + 1 + 1 + 1 = w0.heap.size + 3 from rfl, show w0.heap.size + 1 + 1 = w0.heap.size + 2 from rfl]
    clear hwz
    have hM := hMz
    clear hMz
    obtain ⟨k0, k1, k2, k3, k4⟩ := cell5 hM.sb
    have f0 := hM.sb.free 0
    have f1 := hM.sb.free 1
    have f2 := hM.sb.free 2
    have f3 := hM.sb.free 3
    have f4 := hM.sb.free 4
    go_upto_region 6 with (go_at_call 31; (have TK1 : Calls Tryd.prog 31 #[.pointer (some ⟨w0.heap.size + 3, 0, none⟩), .int .i64 3] _ _ := rnumb3 _ _ _ _ hM.rp (Nat.le_add_right _ _)); ((with_reducible refine TK1.mono ?_); rintro e' w1 ⟨rfl, hp, hg⟩; (try clear TK1); have hM := hM.call hg hp; have hX := hX.call hg; clear hp hg; (try clear k0 k1 k2 k3 k4 f0 f1 f2 f3 f4); obtain ⟨k0, k1, k2, k3, k4⟩ := cell5 hM.sb; have f0 := hM.sb.free 0; have f1 := hM.sb.free 1; have f2 := hM.sb.free 2; have f3 := hM.sb.free 3; have f4 := hM.sb.free 4))
    obtain ⟨wy, hwy, hMy, hgy⟩ := hM.three ((nmb 3 (b, false)).1 : Int) ((nmb 3 (nmb 3 (b, false)).2).1 : Int) ((nmb 3 (nmb 3 (nmb 3 (b, false)).2).2).1 : Int)
    rw [← hwy]
    have hX := hX.one hgy rfl
    clear hwy hM hgy
    (try clear k0 k1 k2 k3 k4 f0 f1 f2 f3 f4)
    have hM := hMy
    clear hMy
    have hle := nmb1_lt hM.rp.b8
    go_wp2_with (go_at_call 31; (have TK1 : Calls Tryd.prog 31 #[.pointer (some ⟨w0.heap.size + 3, 0, none⟩), .int .i64 1] _ _ := rnumb1 _ _ _ _ hM.rp (Nat.le_add_right _ _)); ((with_reducible refine TK1.mono ?_); rintro e' w4 ⟨rfl, hp, hg⟩; (try clear TK1); have hM := hM.call hg hp; have hX := hX.call hg; clear hp hg))
    rename_i K hK
    go_step3
    show K _ _
    refine hK _ _ ?_
    exact HC.out 1 _ _ _ (Or.inl ⟨rfl, J1.mk ⟨hM, hX, Lib.hid rfl, Lib.hid ⟨by show _ + 0 ≤ 255; omega, rfl⟩, Lib.hid (conB_all b).symm, Nat.le_refl _⟩⟩) _ (by kernel_rfl)
end Go.Proofs.YtllnfociddodcaaDoor
namespace Go.Proofs.YtllnfociddodcaaDoor
open Go.ChangeShapes Go.WideShapes Go.ChangeAt Go.RowKit
theorem sameB_any (xs ys : List Nat) (A B : Option Addr) (c d : Nat) (w : World) (h1 : Sl w w.heap.size A (xs.map byteV)) (h2 : Sl w w.heap.size B (ys.map byteV)) (n1 : xs.length ≤ 1000000) (n2 : ys.length ≤ 1000000) :
    Calls Tryd.prog 12 #[.slice A xs.length c, .slice B ys.length d] w fun e w' => e = .returned (.bool (decide (xs = ys))) ∧ Below w.heap.size w w' := by
  go_enter Tryd.func12, Tryd.ntmps12
  by_cases hl : xs.length = ys.length
  · go_wp2
    go_loopw [5] (fun i wr => ∃ k : Nat, k ≤ xs.length ∧ i = .int .i64 k ∧ Hid (xs.take k = ys.take k) ∧ Below w.heap.size w wr) (fun i _ => xs.length - (intOf i).toNat)
    case atStart => exact ⟨0, Nat.zero_le _, rfl, Lib.hid rfl, Below.refl _ _⟩
    case round =>
      obtain ⟨k, hk, rfl, hd, hB⟩ := hrel
      by_cases hlt : k < xs.length
      · obtain ⟨b1, o1, rfl, l1, q1⟩ := h1.at_ (by simpa using (by omega : 0 < xs.length))
        obtain ⟨b2, o2, rfl, l2, q2⟩ := h2.at_ (by simpa using (by omega : 0 < ys.length))
        obtain ⟨x, hx⟩ : ∃ x, xs[k]? = some x := ⟨_, List.getElem?_eq_getElem hlt⟩
        obtain ⟨y, hy⟩ : ∃ y, ys[k]? = some y := ⟨_, List.getElem?_eq_getElem (by omega)⟩
        have cx : wr.cell? ⟨b1, o1 + k, none⟩ = some (.int .u8 (x : Int)) := (hB.cell (p := ⟨b1, o1 + k, none⟩) l1).trans (q1 k _ (by rw [List.getElem?_map, hx]; rfl))
        have cy : wr.cell? ⟨b2, o2 + k, none⟩ = some (.int .u8 (y : Int)) := (hB.cell (p := ⟨b2, o2 + k, none⟩) l2).trans (q2 k _ (by rw [List.getElem?_map, hy]; rfl))
        have Hx := Lib.hid hx
        have Hy := Lib.hid hy
        clear hx hy q1 q2
        have i1 : (0 : Int) ≤ (k : Int) := by omega
        have i2 : (k : Int) < (xs.length : Int) := by omega
        have i3 : (k : Int) < (ys.length : Int) := by omega
        by_cases hxy : x = y
        · subst hxy
          go_wp2
          go_quiet (fail)
          go_wp2
          refine ⟨⟨k + 1, by omega, by go_num, ?_, below_dn hB _⟩, by simp [intOf]; omega⟩
          show xs.take (k + 1) = ys.take (k + 1)
          rw [List.take_add_one, List.take_add_one, hd.out, Hx.out, Hy.out]
        · have hb : ((x : Int) != (y : Int)) = true := by
            simp only [bne_iff_ne, ne_eq]
            omega
          have hne : xs ≠ ys := by
            intro h
            subst h
            exact hxy (Option.some.inj (Hx.out.symm.trans Hy.out))
          have Hne := Lib.hid hne
          clear hne hxy
          go_wp2
          go_quiet (fail)
          go_wp2
          go_ret
          exact ⟨by rw [decide_eq_false Hne.out]; rfl, below_dn hB _⟩
      · have : k = xs.length := by omega
        subst this
        have he : xs = ys := by
          have := hd.out
          rw [List.take_length, hl, List.take_length] at this
          exact this
        clear hd
        go_wp2
        go_ret
        exact ⟨by rw [decide_eq_true he]; rfl, hB⟩
  · have hne : xs ≠ ys := fun h => hl (by rw [h])
    go_wp2
    go_ret
    exact ⟨by rw [decide_eq_false hne]; rfl, Below.refl _ _⟩
end Go.Proofs.YtllnfociddodcaaDoor
namespace Go.Proofs.YtllnfociddodcaaDoor
open Go.ChangeShapes Go.WideShapes Go.ChangeAt Go.RowKit
attribute [local go_sem ↓] Go.wp_at_zero Go.wp_at_succ
theorem b8_cons {x : Nat} {l : List Nat} (hx : x < 256) (h : Bytes8 l) : Bytes8 (x :: l) := fun y hy => by
  rcases List.mem_cons.1 hy with rfl | hy
  · exact hx
  · exact h y hy
theorem b8_append {a l : List Nat} (ha : Bytes8 a) (h : Bytes8 l) : Bytes8 (a ++ l) := fun y hy => by
  rcases List.mem_append.1 hy with hy | hy
  · exact ha y hy
  · exact h y hy
theorem b8_flat {α : Type} {f : α → List Nat} {l : List α} (h : ∀ x ∈ l, Bytes8 (f x)) : Bytes8 (l.flatMap f) := fun y hy => by
  obtain ⟨x, hx, hy⟩ := List.mem_flatMap.1 hy
  exact h x hx y hy
theorem nmL_8 {x : ByteArray} (h : x.size ≤ 20) : Bytes8 (nmL x) := b8_cons (by omega) (bytN_8 x)
theorem shL_8 {s : Sf} (h : MayF s) : Bytes8 (shL s) := by
  have h1 := h.bl
  have h2 := h.tl
  refine b8_append (iL_8 _ _) (b8_append (iL_8 _ _) (b8_append (iL_8 _ _) (b8_cons (by omega) (b8_append (b8_flat fun b hb => ?_) (b8_cons (by omega) (b8_flat fun n hn => ?_))))))
  · exact b8_append (iL_8 _ _) (nmL_8 (may_sz (h.bs b hb).2.2.1))
  · have q := h.nts hn
    have q1 := q.tl
    have q2 := q.sl
    exact b8_append (iL_8 _ _) (b8_append (iL_8 _ _) (b8_append (nmL_8 q.nm) (b8_cons (by omega) (b8_append (b8_flat fun t ht => nmL_8 (q.tg t ht)) (b8_cons (by omega) (b8_flat fun z hz => iL_8 _ _))))))
theorem ByR.arg {w : World} {base : Nat} {v : Value} {xs : List Nat} (h : ByR w base v xs) : ∃ A c, v = .slice A xs.length c ∧ Sl w w.heap.size A (xs.map byteV) ∧ xs.length ≤ c ∧ c ≤ maxLen ∧ (A = none → c = 0) := by
  obtain ⟨A, c, rfl, h1, h2⟩ := own_shape h
  refine ⟨A, c, rfl, Sl.of_own h, h1, h2, fun hA => ?_⟩
  subst hA
  rcases h.2 with ⟨e, _⟩ | ⟨g, cap, cur, e, _⟩
  · injection e with _ _ h3
  · cases e
theorem read_yes (s : Sf) (hF : MayF s) (n : Nat) (A : Option Addr) (c : Nat) (w : World) (hn : (shL s).length = n) (h : Sl w w.heap.size A ((shL s).map byteV)) (hc : n ≤ c) (hcm : c ≤ maxLen) (n1 : n ≤ 100000) (hA : A = none → c = 0) (hT : Tabs w) :
    Calls Tryd.prog 18 #[.slice A n c] w fun e' w' => ∃ v', e' = .returned (.tuple #[v', .int .i64 0]) ∧ ShW w' w.heap.size v' s ∧ Below w.heap.size w w' := by
  refine (read_any (shL s) n A c w hn h (shL_8 hF) hc hcm n1 hA hT).mono ?_
  rintro e' w' ⟨⟨v, rfl, hS⟩, hb⟩
  obtain ⟨h1, h2⟩ := okR_lay hF
  rw [h1] at hS ⊢
  refine ⟨v, rfl, ?_, hb⟩
  rw [← h2]
  exact hS
theorem read_no (b : List Nat) (hO : okR b = false) (n : Nat) (A : Option Addr) (c : Nat) (w : World) (hn : b.length = n) (h : Sl w w.heap.size A (b.map byteV)) (h8 : Bytes8 b) (hc : n ≤ c) (hcm : c ≤ maxLen) (n1 : n ≤ 100000) (hA : A = none → c = 0) (hT : Tabs w) :
    Calls Tryd.prog 18 #[.slice A n c] w fun e' w' => ∃ v', e' = .returned (.tuple #[v', .int .i64 5]) ∧ ShW w' w.heap.size v' ⟨0, 0, 0, [], []⟩ ∧ Below w.heap.size w w' := by
  refine (read_any b n A c w hn h h8 hc hcm n1 hA hT).mono ?_
  rintro e' w' ⟨⟨v, rfl, hS⟩, hb⟩
  rw [hO] at hS ⊢
  exact ⟨v, rfl, hS, hb⟩
theorem sameB_b (b : Bool) (xs ys : List Nat) (n m : Nat) (hn : xs.length = n) (hm : ys.length = m) (hb : decide (xs = ys) = b) (A B : Option Addr) (c d : Nat) (w : World) (h1 : Sl w w.heap.size A (xs.map byteV)) (h2 : Sl w w.heap.size B (ys.map byteV)) (n1 : n ≤ 1000000) (n2 : m ≤ 1000000) :
    Calls Tryd.prog 12 #[.slice A n c, .slice B m d] w fun e w' => e = .returned (.bool b) ∧ Below w.heap.size w w' := by
  subst hn hm hb
  exact sameB_any xs ys A B c d w h1 h2 n1 n2
def sfE : Sf := ⟨1, 1, 1, [], []⟩
theorem mfE : MayF sfE := mayF_of (by decide +kernel)
theorem shE : shL sfE = [0, 0, 1, 0, 0, 1, 0, 0, 1, 0, 0] := by decide +kernel
theorem szE : (cond (mayS sfE) (shL sfE) []).length = 11 := by decide +kernel
theorem noE : okR [] = false := by decide +kernel
theorem ShR.one (w : World) : ShR w w.heap.size (.agg #[.int .i64 1, .int .i64 1, .int .i64 1, .slice none 0 0, .slice none 0 0]) sfE := ⟨none, 0, none, 0, rfl, Or.inl rfl, ⟨[], rfl, Or.inl rfl, fun k n e h => by simp [sfE] at h⟩, by decide, by decide, by decide, by decide⟩
theorem lit_11 (w : World) {g : Nat} (hg : g = w.heap.size) : Sl (w.alloc (.cells #[.int .u8 0, .int .u8 0, .int .u8 1, .int .u8 0, .int .u8 0, .int .u8 1, .int .u8 0, .int .u8 0, .int .u8 1, .int .u8 0, .int .u8 0] 5)) (w.alloc (.cells #[.int .u8 0, .int .u8 0, .int .u8 1, .int .u8 0, .int .u8 0, .int .u8 1, .int .u8 0, .int .u8 0, .int .u8 1, .int .u8 0, .int .u8 0] 5)).heap.size (some ⟨g, 0, none⟩) (([0, 0, 1, 0, 0, 1, 0, 0, 1, 0, 0] : List Nat).map byteV) := by
  subst hg
  refine Or.inr ⟨w.heap.size, 0, rfl, by simp, fun j u hu => ?_⟩
  rw [Joins.cell_of_block (heap_alloc_new w _), Nat.zero_add]
  simpa [byteV] using hu
theorem layE (w : World) (hT : Tabs w) : Calls Tryd.prog 10 #[.agg #[.int .i64 1, .int .i64 1, .int .i64 1, .slice none 0 0, .slice none 0 0]] w fun e' w' => ∃ A c, e' = .returned (.tuple #[.slice A 11 c, .int .i64 0]) ∧ Sl w' w'.heap.size A (([0, 0, 1, 0, 0, 1, 0, 0, 1, 0, 0] : List Nat).map byteV) ∧ 11 ≤ c ∧ c ≤ maxLen ∧ (A = none → c = 0) ∧ Below w.heap.size w w' := by
  refine (lay_yes sfE _ w (ShR.one w) hT mfE).mono ?_
  rintro e' w' ⟨v', rfl, hr, hb⟩
  rw [shE] at hr
  obtain ⟨A, c, rfl, h1, h2, h3, h4⟩ := hr.arg
  exact ⟨A, c, rfl, h1, h2, h3, h4, hb⟩
theorem readE (A : Option Addr) (c : Nat) (w : World) (h : Sl w w.heap.size A (([0, 0, 1, 0, 0, 1, 0, 0, 1, 0, 0] : List Nat).map byteV)) (hc : 11 ≤ c) (hcm : c ≤ maxLen) (hA : A = none → c = 0) (hT : Tabs w) :
    Calls Tryd.prog 18 #[.slice A 11 c] w fun e' w' => ∃ Ab cb An cn, e' = .returned (.tuple #[.agg #[.int .i64 1, .int .i64 1, .int .i64 1, .slice Ab 0 cb, .slice An 0 cn], .int .i64 0]) ∧ ShR w' w'.heap.size (.agg #[.int .i64 1, .int .i64 1, .int .i64 1, .slice Ab 0 cb, .slice An 0 cn]) sfE ∧ Below w.heap.size w w' := by
  refine (read_yes sfE mfE 11 A c w (by rw [shE]; rfl) (by rw [shE]; exact h) hc hcm (by decide) hA hT).mono ?_
  rintro e' w' ⟨v', rfl, hS, hb⟩
  have hR := hS.toR
  obtain ⟨Ab, cb, An, cn, rfl, -⟩ := hS.parts
  exact ⟨Ab, cb, An, cn, rfl, hR, hb⟩
theorem readN (w : World) (hT : Tabs w) : Calls Tryd.prog 18 #[.slice none 0 0] w fun e' w' => ∃ Ab cb An cn, e' = .returned (.tuple #[.agg #[.int .i64 0, .int .i64 0, .int .i64 0, .slice Ab 0 cb, .slice An 0 cn], .int .i64 5]) ∧ Below w.heap.size w w' := by
  refine (read_no [] noE 0 none 0 w rfl (Or.inl rfl) (fun x hx => by simp at hx) (Nat.le_refl _) (Nat.zero_le _) (by decide) (fun _ => rfl) hT).mono ?_
  rintro e' w' ⟨v', rfl, hS, hb⟩
  obtain ⟨Ab, cb, An, cn, rfl, -⟩ := hS.parts
  exact ⟨Ab, cb, An, cn, rfl, hb⟩
theorem awakeC_any (w : World) (hT : Tabs w) :
    Calls Tryd.prog 9 #[] w fun e' w' => e' = .returned (.bool true) ∧ Below w.heap.size w w' := by
  have HB : Below w.heap.size w w := Below.refl _ _
  have HT := hT
  clear hT
  have B1 : Blk (w.alloc (.cells #[.int .i64 1, .int .i64 1, .int .i64 1, .slice none 0 0, .slice none 0 0] 25)) w.heap.size 25 #[.int .i64 1, .int .i64 1, .int .i64 1, .slice none 0 0, .slice none 0 0] := Blk.new_ _ _ _
  have bx : Below w.heap.size w (w.alloc (.cells #[.int .i64 1, .int .i64 1, .int .i64 1, .slice none 0 0, .slice none 0 0] 25)) := (Below.refl _ _).alloc (Nat.le_refl _) _
  replace HB := HB.trans bx
  replace HT := HT.next bx
  clear bx
  obtain ⟨k0, k1, k2, k3, k4⟩ := cell5 B1
  go_enter Tryd.func9, Tryd.ntmps9
  go_wp2_with (first | (go_at_call 10; ((with_reducible refine (layE _ HT).mono ?_); rintro e' w1 ⟨A1, c1, rfl, hs, j1, j2, j3, bx⟩; have HT := HT.next bx; have HB := btr HB HB.size bx; have B1 := B1.below bx B1.lt; clear bx; (try clear k0 k1 k2 k3 k4); obtain ⟨k0, k1, k2, k3, k4⟩ := cell5 B1)) | (go_at_call 18; ((with_reducible refine (readE A1 c1 _ hs j1 j2 j3 HT).mono ?_); rintro e' w2 ⟨Ab, cb, An, cn, rfl, hR, bx⟩; have B2 : Blk (w2.alloc (.cells #[.int .i64 1, .int .i64 1, .int .i64 1, .slice Ab 0 cb, .slice An 0 cn] 25)) w2.heap.size 25 #[.int .i64 1, .int .i64 1, .int .i64 1, .slice Ab 0 cb, .slice An 0 cn] := Blk.new_ _ _ _; have hs := (hs.below bx).mono bx.size; have HT := HT.next bx; have HB := btr HB HB.size bx; have B1 := B1.below bx B1.lt; clear bx; have bx : Below w2.heap.size w2 (w2.alloc (.cells #[.int .i64 1, .int .i64 1, .int .i64 1, .slice Ab 0 cb, .slice An 0 cn] 25)) := (Below.refl _ _).alloc (Nat.le_refl _) _; have hs := (hs.below bx).mono bx.size; have HT := HT.next bx; have HB := btr HB HB.size bx; have B1 := B1.below bx B1.lt; have hR := hR.next bx; clear bx; (try clear k0 k1 k2 k3 k4); obtain ⟨k0, k1, k2, k3, k4⟩ := cell5 B1)) | (go_at_call 18; ((with_reducible refine (readN _ HT).mono ?_); rintro e' w3 ⟨Ac, cc, Ad, cd, rfl, bx⟩; have hs := (hs.below bx).mono bx.size; have HT := HT.next bx; have HB := btr HB HB.size bx; have B1 := B1.below bx B1.lt; have B2 := B2.below bx B2.lt; have hR := hR.next bx; clear bx; have bx : Below w3.heap.size w3 (w3.alloc (.cells #[.int .i64 0, .int .i64 0, .int .i64 0, .slice Ac 0 cc, .slice Ad 0 cd] 25)) := (Below.refl _ _).alloc (Nat.le_refl _) _; have hs := (hs.below bx).mono bx.size; have HT := HT.next bx; have HB := btr HB HB.size bx; have B1 := B1.below bx B1.lt; have B2 := B2.below bx B2.lt; have hR := hR.next bx; clear bx; have hl := lit_11 (w3.alloc (.cells #[.int .i64 0, .int .i64 0, .int .i64 0, .slice Ac 0 cc, .slice Ad 0 cd] 25)) (g := w3.heap.size + 1) (by simp); have bx : Below (w3.alloc (.cells #[.int .i64 0, .int .i64 0, .int .i64 0, .slice Ac 0 cc, .slice Ad 0 cd] 25)).heap.size (w3.alloc (.cells #[.int .i64 0, .int .i64 0, .int .i64 0, .slice Ac 0 cc, .slice Ad 0 cd] 25)) ((w3.alloc (.cells #[.int .i64 0, .int .i64 0, .int .i64 0, .slice Ac 0 cc, .slice Ad 0 cd] 25)).alloc (.cells #[.int .u8 0, .int .u8 0, .int .u8 1, .int .u8 0, .int .u8 0, .int .u8 1, .int .u8 0, .int .u8 0, .int .u8 1, .int .u8 0, .int .u8 0] 5)) := (Below.refl _ _).alloc (Nat.le_refl _) _; have hs := (hs.below bx).mono bx.size; have HT := HT.next bx; have HB := btr HB HB.size bx; have B1 := B1.below bx B1.lt; have B2 := B2.below bx B2.lt; have hR := hR.next bx; clear bx; (try clear k0 k1 k2 k3 k4); obtain ⟨k0, k1, k2, k3, k4⟩ := cell5 B1; obtain ⟨q0, q1, q2, q3, q4⟩ := cell5 B2)) | (go_at_call 12; ((with_reducible refine (sameB_b true _ _ 11 11 rfl rfl (by decide) _ _ _ _ _ hs hl (by decide) (by decide)).mono ?_); rintro e' w4 ⟨rfl, bx⟩; clear hs hl; have HT := HT.next bx; have HB := btr HB HB.size bx; have B1 := B1.below bx B1.lt; have B2 := B2.below bx B2.lt; have hR := hR.next bx; clear bx; (try clear k0 k1 k2 k3 k4 q0 q1 q2 q3 q4); obtain ⟨k0, k1, k2, k3, k4⟩ := cell5 B1; obtain ⟨q0, q1, q2, q3, q4⟩ := cell5 B2)) | (go_at_call 21; ((with_reducible refine (sameShelf_yes sfE _ _ _ hR (ShR.one _) (by decide) (by decide) (by intro n hn; simp [sfE] at hn)).mono ?_); rintro e' w5 ⟨rfl, bx⟩; have HT := HT.next bx; have HB := btr HB HB.size bx; have B1 := B1.below bx B1.lt; have B2 := B2.below bx B2.lt; have hR := hR.next bx; clear bx; (try clear k0 k1 k2 k3 k4 q0 q1 q2 q3 q4); obtain ⟨k0, k1, k2, k3, k4⟩ := cell5 B1; obtain ⟨q0, q1, q2, q3, q4⟩ := cell5 B2)) | (go_at_call 14; ((with_reducible refine (size_any sfE _ _ (ShR.one _) HT 11 szE).mono ?_); rintro e' w6 ⟨rfl, bx⟩; have HB := btr HB HB.size bx; clear bx)))
  go_ret
  exact ⟨rfl, HB⟩
end Go.Proofs.YtllnfociddodcaaDoor
namespace Go.Proofs.YtllnfociddodcaaDoor
open Go.ChangeShapes Go.WideShapes Go.ChangeAt Go.RowKit
end Go.Proofs.YtllnfociddodcaaDoor
namespace Go.Proofs.YtllnfociddodcaaDoor
open Go.ChangeShapes Go.WideShapes Go.ChangeAt Go.RowKit
attribute [local go_sem ↓] Go.wp_at_zero Go.wp_at_succ
end Go.Proofs.YtllnfociddodcaaDoor
namespace Go.Proofs.YtllnfociddodcaaDoor
open Go.ChangeShapes Go.WideShapes Go.ChangeAt Go.RowKit
attribute [local go_sem ↓] Go.wp_at_zero Go.wp_at_succ
theorem set_f4 (es : List (List Value)) (k : Nat) (p0 p1 p2 p3 p4 u : Value) (h : es[k]? = some [p0, p1, p2, p3, p4]) (hC : ∀ x ∈ es, x.length = 5) : es.flatten.set (k * 5 + 4) u = (es.set k [p0, p1, p2, p3, u]).flatten := by
  have hs : ∀ (l : List Value) (i : Nat) (u : Value), l[i]? = some u → l.set i u = l := by
    intro l i u hu
    obtain ⟨hlt, he⟩ := List.getElem?_eq_some_iff.1 hu
    rw [← he]
    exact List.set_getElem_self hlt
  have g : ∀ j, j < 5 → es.flatten[k * 5 + j]? = ([p0, p1, p2, p3, p4] : List Value)[j]? := fun j hj => flat_at es hC k _ h j hj
  have h1 := set_five es k p0 p1 p2 p3 p4 p0 p1 p2 p3 u h hC
  have n0 := hs es.flatten (k * 5 + 0) p0 (g 0 (by decide))
  rw [n0] at h1
  have n1 := hs es.flatten (k * 5 + 1) p1 (g 1 (by decide))
  rw [n1] at h1
  have n2 := hs es.flatten (k * 5 + 2) p2 (g 2 (by decide))
  rw [n2] at h1
  have n3 := hs es.flatten (k * 5 + 3) p3 (g 3 (by decide))
  rw [n3] at h1
  exact h1
structure HalfI (s : Sf) (vb : Value) (A : Option Addr) (cn : Nat) (w0 : World) (B0 : Nat) (k : Nat) (n : Nt) (As : Option Addr) (cs : Nat) (wr : World) : Prop where
  box : Blk wr B0 25 #[.int .i64 s.nb, .int .i64 s.nn, .int .i64 s.ns, vb, .slice A s.ts.length cn]
  res : Blk wr (B0 + 1) 25 #[.int .i64 0, .int .i64 0, .int .i64 0, .slice none 0 0, .slice none 0 0]
  ob : wr.ownsRow (B0 + 2) 48 2 vb s.bs.length (s.bs.map bkC).flatten
  sl : Sl wr B0 As (n.sh.map (Value.int .i64))
  es : ∃ (es : List (List Value)) (vt : Value), es.length = s.ts.length ∧ (∀ x ∈ es, x.length = 5) ∧ wr.ownsRow (B0 + 2) 52 5 (.slice A s.ts.length cn) s.ts.length es.flatten ∧ (∀ (j : Nat) (n : Nt) (e : List Value), j < k → s.ts[j]? = some n → es[j]? = some e → NtW wr (B0 + 2) n e) ∧ (es[k]? = some (ntC n vt (.slice As n.sh.length cs)) ∧ wr.ownsRow (B0 + 2) 9 1 vt n.tg.length (n.tg.map strV)) ∧ (∀ (j : Nat) (n : Nt) (e : List Value), k < j → s.ts[j]? = some n → es[j]? = some e → NtIn wr B0 n e)
  be : Below B0 w0 wr
  sz : B0 + 2 ≤ wr.heap.size
theorem HalfI.below {s : Sf} {vb : Value} {A : Option Addr} {cn : Nat} {w0 wr wr' : World} {B0 k : Nat} {n : Nt} {As : Option Addr} {cs : Nat} (h : HalfI s vb A cn w0 B0 k n As cs wr) (hb : Below wr.heap.size wr wr') : HalfI s vb A cn w0 B0 k n As cs wr' := by
  obtain ⟨es, vt, h1, h2, h3, h4, ⟨h5, h6⟩, h7⟩ := h.es
  have hB := hb.mono (show B0 ≤ wr.heap.size by have := h.sz; omega)
  exact ⟨h.box.below hb h.box.lt, h.res.below hb h.res.lt, own_belowW h.ob hb, h.sl.below hB, ⟨es, vt, h1, h2, own_belowW h3 hb, fun j n e a b c => (h4 j n e a b c).below hb, ⟨h5, own_belowW h6 hb⟩, fun j n e a b c => (h7 j n e a b c).below hB⟩, h.be.trans hB, by have := hb.size; have := h.sz; omega⟩
theorem HalfI.whole {s : Sf} {vb : Value} {gn cn : Nat} {w0 wr : World} {B0 k : Nat} {n : Nt} {As : Option Addr} {cs : Nat} (h : HalfI s vb (some ⟨gn, 0, none⟩) cn w0 B0 k n As cs wr) (hn : s.ts[k]? = some n) (hgn : B0 + 2 ≤ gn) : wr.cell? ⟨gn, k * 5 + 4, none⟩ = some (.slice As n.sh.length cs) ∧ ∀ (w5 : World) (v2 : Value), Below wr.heap.size wr w5 → w5.ownsRow wr.heap.size 3 1 v2 n.sh.length (n.sh.map (Value.int .i64)) → CloneI s vb (some ⟨gn, 0, none⟩) cn w0 B0 (k + 1) (w5.setCell ⟨gn, k * 5 + 4, none⟩ v2) := by
  obtain ⟨hbox, hres, hob, hAs, ⟨es, vt, hel, hC, hon, hnew, ⟨hk, hvt⟩, hold⟩, hbe, hsz⟩ := h
  have hkl : k < es.length := (List.getElem?_eq_some_iff.1 hk).1
  refine ⟨own_cellE hon hC hk (j := 4) rfl, fun w5 v2 hb h1 => ?_⟩
  have hB := hb.mono (show B0 ≤ wr.heap.size by omega)
  have hon5 := own_belowW hon hb
  have hvt5 := own_belowW hvt hb
  have q1 := (World.ownsRow.stored hon5 (k * 5 + 4) v2).1
  rw [set_f4 es k _ _ _ _ _ v2 hk hC] at q1
  have q2 := set1_grown w5 gn (k * 5 + 4) v2
  have hob5 := own_belowW hob hb
  have hbG : Below B0 w5 (w5.setCell ⟨gn, k * 5 + 4, none⟩ v2) := below_grown (Below.refl _ _) q2 (by omega) (by have := hb.size; omega)
  refine ⟨(hbox.below hb hbox.lt).grown q2 (by omega), (hres.below hb hres.lt).grown q2 (by omega), hob5.kept q2 (own_apart hob5 hon5 (by decide)), ⟨es.set k [.int .i64 n.id, .int .i64 n.bk, .string n.nm, vt, v2], by rw [List.length_set]; exact hel, ?_, q1, ?_, ?_⟩, (hbe.trans hB).trans hbG, by have := hb.size; have := q2.size; omega⟩
  · intro x hx
    rcases List.mem_or_eq_of_mem_set hx with h | rfl
    · exact hC x h
    · rfl
  · intro j m e hj hm hej
    rw [List.getElem?_set] at hej
    split at hej
    · rename_i hjk
      subst hjk
      rw [hn] at hm
      cases hm
      simp only [hkl, if_true, Option.some.injEq] at hej
      subst hej
      exact NtW.kept (w := w5) ⟨vt, v2, rfl, hvt5, own_base h1 hsz⟩ hon5 q2 (by decide) (by decide)
    · exact ((hnew j m e (by omega) hm hej).below hb).kept hon5 q2 (by decide) (by decide)
  · intro j m e hj hm hej
    rw [List.getElem?_set, if_neg (by omega)] at hej
    exact ((hold j m e (by omega) hm hej).below hB).below hbG
end Go.Proofs.YtllnfociddodcaaDoor
namespace Go.Proofs.YtllnfociddodcaaDoor
open Go.ChangeShapes Go.WideShapes Go.ChangeAt Go.RowKit
attribute [local go_sem ↓] Go.wp_at_zero Go.wp_at_succ
def tgOk (l : List ByteArray) (k : Nat) : Bool := match l[k]? with
  | some t => mayN t && (match k with
    | 0 => true
    | j + 1 => match l[j]? with
      | some p => lessS p t
      | none => true)
  | none => true
end Go.Proofs.YtllnfociddodcaaDoor
namespace Go.Proofs.YtllnfociddodcaaDoor
open Go.ChangeShapes Go.WideShapes Go.ChangeAt Go.RowKit
attribute [local go_sem ↓] Go.wp_at_zero Go.wp_at_succ
def rshB (s : Sf) : Bool := inI s.ns 1 4096 && sheetsIn s.ns [] (s.ts.flatMap Nt.sh)
end Go.Proofs.YtllnfociddodcaaDoor
namespace Go.Proofs.YtllnfociddodcaaDoor
open Go.ChangeShapes Go.WideShapes Go.ChangeAt Go.RowKit
attribute [local go_sem ↓] Go.wp_at_zero Go.wp_at_succ
def prevOk (pre : List Bk) (b : Bk) : Bool := match pre.getLast? with
  | some p => decide (p.id < b.id)
  | none => true
def bkOk (s : Sf) : List Bk → List Bk → Bool
  | _, [] => true
  | pre, b :: l => decide (1 ≤ b.id) && (decide (b.id < s.nb) && (prevOk pre b && (mayN b.nm && (!pre.any (fun c => sameS c.nm b.nm) && bkOk s (pre ++ [b]) l))))
def rbkB (s : Sf) : Bool := decide (s.bs.length ≤ 6) && (inI s.nb 1 65536 && bkOk s [] s.bs)
end Go.Proofs.YtllnfociddodcaaDoor
namespace Go.Proofs.YtllnfociddodcaaDoor
open Go.ChangeShapes Go.WideShapes Go.ChangeAt Go.RowKit
attribute [local go_sem ↓] Go.wp_at_zero Go.wp_at_succ
def prevNk (pre : List Nt) (b : Nt) : Bool := match pre.getLast? with
  | some p => decide (p.id < b.id)
  | none => true
def ntOk (s : Sf) : List Nt → List Nt → Bool
  | _, [] => true
  | pre, b :: l => decide (1 ≤ b.id) && (decide (b.id < s.nn) && (prevNk pre b && (mayN b.nm && (decide (0 ≤ bookAt s b.bk) && (mayTg b.tg && (decide (b.sh.length ≤ 8) && (!pre.any (fun c => sameS c.nm b.nm && c.bk == b.bk) && ntOk s (pre ++ [b]) l)))))))
def rntB (s : Sf) : Bool := decide (s.ts.length ≤ 12) && (inI s.nn 1 65536 && ntOk s [] s.ts)
end Go.Proofs.YtllnfociddodcaaDoor
namespace Go.Proofs.YtllnfociddodcaaDoor
open Go.ChangeShapes Go.WideShapes Go.ChangeAt Go.RowKit
attribute [local go_sem ↓] Go.wp_at_zero Go.wp_at_succ
structure SzF (s : Sf) : Prop where
  hb : ∀ b ∈ s.bs, b.nm.size ≤ 100000
  hn : ∀ b ∈ s.ts, b.nm.size ≤ 100000 ∧ ((∀ t ∈ b.tg, t.size ≤ 100000) ∧ b.tg.length ≤ 100000) ∧ b.sh.length ≤ 100000
  bl : s.bs.length ≤ 100000
  tl : s.ts.length ≤ 100000
  fl : (s.ts.flatMap Nt.sh).length ≤ 100000
def rMayB (s : Sf) : Bool := rbkB s && (rntB s && rshB s)
end Go.Proofs.YtllnfociddodcaaDoor
namespace Go.Proofs.YtllnfociddodcaaDoor
open Go.ChangeShapes Go.WideShapes Go.ChangeAt Go.RowKit
attribute [local go_sem ↓] Go.wp_at_zero Go.wp_at_succ
end Go.Proofs.YtllnfociddodcaaDoor
namespace Go.Proofs.YtllnfociddodcaaDoor
open Go.ChangeShapes Go.WideShapes Go.ChangeAt Go.RowKit
attribute [local go_sem ↓] Go.wp_at_zero Go.wp_at_succ
def clash (a b : Nt) : Bool := sameS a.nm b.nm && a.bk == b.bk
end Go.Proofs.YtllnfociddodcaaDoor
namespace Go.Proofs.YtllnfociddodcaaDoor
open Go.ChangeShapes Go.WideShapes Go.ChangeAt Go.RowKit
attribute [local go_sem ↓] Go.wp_at_zero Go.wp_at_succ
end Go.Proofs.YtllnfociddodcaaDoor
namespace Go.Proofs.YtllnfociddodcaaDoor
open Go.ChangeShapes Go.WideShapes Go.ChangeAt Go.RowKit
attribute [local go_sem ↓] Go.wp_at_zero Go.wp_at_succ
theorem sz_of_great {s : Sf} (h : greatS s = false) : SzF s := by
  have h1 : s.bs.length ≤ 10 := by
    rcases Nat.lt_or_ge 10 s.bs.length with h2 | h2
    · rw [gS_1 h2] at h; cases h
    · exact h2
  have h2 : s.ts.length ≤ 16 := by
    rcases Nat.lt_or_ge 16 s.ts.length with h3 | h3
    · rw [gS_2 h3] at h; cases h
    · exact h3
  have h3 : s.bs.any bigB = false := by
    cases h4 : s.bs.any bigB
    · rfl
    · rw [gS_b h1 h4] at h; cases h
  have h4 : s.ts.any bigN = false := by
    cases h5 : s.ts.any bigN
    · rfl
    · rw [gS_n h2 h5] at h; cases h
  have h5 : ∀ n ∈ s.ts, n.nm.size ≤ 60 ∧ n.tg.length ≤ 8 ∧ (∀ t ∈ n.tg, t.size ≤ 60) ∧ n.sh.length ≤ 12 := by
    intro n hn
    have h6 := List.any_eq_false.1 h4 n hn
    unfold bigN greatT at h6
    simp only [Bool.or_eq_true, decide_eq_true_eq, not_or, Bool.not_eq_true] at h6
    refine ⟨by omega, by omega, fun t ht => ?_, by omega⟩
    have h7 := List.any_eq_false.1 h6.2.1.2 t ht
    unfold bigS at h7
    have h8 : ¬ 60 < t.size := by simpa using h7
    omega
  have h6 : ∀ l : List Nt, (∀ n ∈ l, n.sh.length ≤ 12) → (l.flatMap Nt.sh).length ≤ 12 * l.length := by
    intro l
    induction l with
    | nil => intro _; simp
    | cons n l ih =>
      intro hl
      rw [List.flatMap_cons, List.length_append, List.length_cons]
      have q1 := hl n (by simp)
      have q2 := ih (fun m hm => hl m (by simp [hm]))
      omega
  refine ⟨fun b hb => ?_, fun n hn => ?_, by omega, by omega, ?_⟩
  · have h7 := List.any_eq_false.1 h3 b hb
    unfold bigB at h7
    have h8 : ¬ 60 < b.nm.size := by simpa using h7
    omega
  · obtain ⟨q1, q2, q3, q4⟩ := h5 n hn
    exact ⟨by omega, ⟨fun t ht => by have := q3 t ht; omega, by omega⟩, by omega⟩
  · have := h6 s.ts (fun n hn => (h5 n hn).2.2.2)
    omega
theorem shL_len {s : Sf} (h : MayF s) : (shL s).length ≤ 10000 ∧ 0 < (shL s).length := by
  have h1 := fm_len bkL 100 s.bs (fun b hb => by
    have q := may_sz (h.bs b hb).2.2.1
    show (iL b.id 3 ++ nmL b.nm).length ≤ 100
    have e1 : (iL b.id 3).length = 3 := by simp [iL, beB]
    have e2 : (nmL b.nm).length = b.nm.size + 1 := by simp [nmL, bytN]
    rw [List.length_append, e1, e2]
    omega)
  have h2 := fm_len ntL 200 s.ts (fun n hn => ntL_len (h.nts hn))
  have h3 := h.bl
  have h4 := h.tl
  have e : ∀ z : Int, (iL z 3).length = 3 := fun z => by simp [iL, beB]
  have hL : (shL s).length = 11 + (s.bs.flatMap bkL).length + (s.ts.flatMap ntL).length := by
    simp only [shL, List.length_append, List.length_cons, e]
    omega
  omega
theorem layL (s : Sf) (v : Value) (w : World) (hS : ShR w w.heap.size v s) (hT : Tabs w) (hF : MayF s) (L : Nat) (hL : (shL s).length = L) :
    Calls Tryd.prog 10 #[v] w fun e' w' => ∃ g c, e' = .returned (.tuple #[.slice (some ⟨g, 0, none⟩) L c, .int .i64 0]) ∧ w'.ownsRow w.heap.size 5 1 (.slice (some ⟨g, 0, none⟩) L c) L ((shL s).map byteV) ∧ Below w.heap.size w w' := by
  refine (lay_yes s v w hS hT hF).mono ?_
  rintro e' w' ⟨v', rfl, hr, hb⟩
  have h0 := (shL_len hF).2
  unfold ByR at hr
  rw [hL] at hr h0
  rcases hr.2 with ⟨rfl, h1⟩ | ⟨g, cap, cur, rfl, _⟩
  · omega
  · exact ⟨g, cap, rfl, hr, hb⟩
end Go.Proofs.YtllnfociddodcaaDoor
namespace Go.Proofs.YtllnfociddodcaaDoor
open Go.ChangeShapes Go.WideShapes Go.ChangeAt Go.RowKit
attribute [local go_sem ↓] Go.wp_at_zero Go.wp_at_succ
theorem bkL_lenE (b : Bk) : (bkL b).length = b.nm.size + 4 := by
  show (iL b.id 3 ++ nmL b.nm).length = _
  have e1 : (iL b.id 3).length = 3 := by simp [iL, beB]
  have e2 : (nmL b.nm).length = b.nm.size + 1 := by simp [nmL, bytN]
  rw [List.length_append, e1, e2]
  omega
theorem fm2_len (l : List Int) : (l.flatMap fun z => iL z 2).length = 2 * l.length := by
  induction l with
  | nil => rfl
  | cons x l ih =>
    rw [List.flatMap_cons, List.length_append, ih, List.length_cons, iL_len]
    omega
theorem ntL_len2 (n : Nt) : (ntL n).length = 9 + n.nm.size + 2 * n.sh.length + (n.tg.flatMap nmL).length := by
  have e : ∀ z : Int, (iL z 3).length = 3 := fun z => by simp [iL, beB]
  have e2 : (nmL n.nm).length = n.nm.size + 1 := by simp [nmL, bytN]
  simp only [ntL, List.length_append, List.length_cons, e, e2, fm2_len]
  omega
theorem fm_take_nx {α β : Type} (f : α → List β) {l : List α} {k : Nat} {x : α} (h : l[k]? = some x) : ((l.take (k + 1)).flatMap f).length = ((l.take k).flatMap f).length + (f x).length := by
  rw [List.take_add_one, h, List.flatMap_append, List.length_append]
  simp
theorem fm_take_le {α β : Type} (f : α → List β) (l : List α) (k : Nat) : ((l.take k).flatMap f).length ≤ (l.flatMap f).length := by
  conv => rhs; rw [← List.take_append_drop k l]
  rw [List.flatMap_append, List.length_append]
  omega
theorem len_fm (l : List ByteArray) : l.length ≤ (l.flatMap nmL).length := by
  induction l with
  | nil => simp
  | cons x l ih =>
    rw [List.flatMap_cons, List.length_append, List.length_cons]
    have : (nmL x).length = x.size + 1 := by simp [nmL, bytN]
    omega
theorem shL_len3 (s : Sf) : (shL s).length = 11 + (s.bs.flatMap bkL).length + (s.ts.flatMap ntL).length := by
  have e : ∀ z : Int, (iL z 3).length = 3 := fun z => by simp [iL, beB]
  simp only [shL, List.length_append, List.length_cons, e]
  omega
theorem sizes_walk (s : Sf) (v : Value) (w : World) (hS : ShR w w.heap.size v s) (hT : Tabs w) :
    Calls Tryd.prog 7 #[v] w fun e' w' => e' = .returned (.bool true) ∧ Below w.heap.size w w' := by
  have hS0 := hS
  have hT0 := hT
  obtain ⟨Ab, cb, An, cn, rfl, -, -, -, -, -, -⟩ := hS.ex
  have HB : Below w.heap.size w (w.alloc (.cells #[.int .i64 s.nb, .int .i64 s.nn, .int .i64 s.ns, .slice Ab s.bs.length cb, .slice An s.ts.length cn] 25)) := (Below.refl w.heap.size w).alloc (Nat.le_refl _) _
  have B1 : Blk (w.alloc (.cells #[.int .i64 s.nb, .int .i64 s.nn, .int .i64 s.ns, .slice Ab s.bs.length cb, .slice An s.ts.length cn] 25)) w.heap.size 25 #[.int .i64 s.nb, .int .i64 s.nn, .int .i64 s.ns, .slice Ab s.bs.length cb, .slice An s.ts.length cn] := Blk.new_ w 25 #[.int .i64 s.nb, .int .i64 s.nn, .int .i64 s.ns, .slice Ab s.bs.length cb, .slice An s.ts.length cn]
  obtain ⟨k0, k1, k2, k3, k4⟩ := cell5 B1
  clear hS hT
  rcases (by cases hq : greatS s <;> simp : greatS s = true ∨ greatS s = false) with hg | hg
  · have HG := Lib.hid hg
    clear hg
    go_enter Tryd.func7, Tryd.ntmps7
    go_wp2_with (first | (go_at_call 8; ((with_reducible refine (greatShelf_any s _ _ ((hS0.below HB).mono HB.size) _ HG.out).mono ?_); rintro e' wN ⟨rfl, bx⟩; have HB := btr HB HB.size bx; have B1 := B1.below bx B1.lt; clear bx; (try clear k0 k1 k2 k3 k4); obtain ⟨k0, k1, k2, k3, k4⟩ := cell5 B1)) | (go_at_call 9; ((with_reducible refine (awakeC_any _ (Tabs.next hT0 HB)).mono ?_); rintro e' wN ⟨rfl, bx⟩; have HB := btr HB HB.size bx; clear bx)))
    go_ret
    exact ⟨rfl, HB⟩
  · have HG := Lib.hid hg
    have HZ := Lib.hid (sz_of_great hg)
    clear hg
    rcases (by cases hq : mayS s <;> simp : mayS s = true ∨ mayS s = false) with hm | hm
    · have hF := mayF_of hm
      have HM := Lib.hid hm
      obtain ⟨L, hL⟩ : ∃ L, (shL s).length = L := ⟨_, rfl⟩
      have h3 := shL_len3 s
      have hl := (shL_len hF).1
      rw [hL] at h3 hl
      have h7 : L ≤ 100000 := by omega
      have HLS : Hid ((cond (mayS s) (shL s) []).length = L) := Lib.hid (by rw [hm]; exact hL)
      have HF := Lib.hid hF
      have HL := Lib.hid hL
      have H3 := Lib.hid h3
      clear hm hF hL h3 hl
      go_enter Tryd.func7, Tryd.ntmps7
      go_upto_region 6 with (first | (go_at_call 8; ((with_reducible refine (greatShelf_any s _ _ ((hS0.below HB).mono HB.size) _ HG.out).mono ?_); rintro e' wN ⟨rfl, bx⟩; have HB := btr HB HB.size bx; have B1 := B1.below bx B1.lt; clear bx; (try clear k0 k1 k2 k3 k4); obtain ⟨k0, k1, k2, k3, k4⟩ := cell5 B1)) | (go_at_call 23; ((with_reducible refine (smay_any s _ _ ((hS0.below HB).mono HB.size) (Tabs.next hT0 HB) true HM.out).mono ?_); rintro e' wN ⟨rfl, bx⟩; have HB := btr HB HB.size bx; have B1 := B1.below bx B1.lt; clear bx; (try clear k0 k1 k2 k3 k4); obtain ⟨k0, k1, k2, k3, k4⟩ := cell5 B1)))
      obtain ⟨Ab', cb', An', cn', e9, hBk, hNt, -⟩ := (((hS0.below HB).mono HB.size)).ex
      cases e9
      obtain ⟨es, hel, hse, hnt⟩ := hNt.ex
      have HEL := Lib.hid hel
      have HNT := Lib.hid hnt
      obtain ⟨wa, hwa⟩ : ∃ V : World, V = wN := ⟨_, rfl⟩
      subst hwa
      clear hNt hel hnt
      go_wp2_with fail
      go_loop [3, 4] (fun s3 s4 => ∃ (k N : Nat), k ≤ s.bs.length ∧ s4 = .int .i64 (k : Int) ∧ s3 = .int .i64 (N : Int) ∧ N = 11 + ((s.bs.take k).flatMap bkL).length) (fun _ s4 => s.bs.length - (intOf s4).toNat)
      case atStart => exact ⟨0, 11, Nat.zero_le _, rfl, rfl, rfl⟩
      case round =>
        obtain ⟨k, N, hk, rfl, rfl, hN⟩ := hrel
        by_cases hlt : k < s.bs.length
        · obtain ⟨x, hx⟩ : ∃ x, s.bs[k]? = some x := ⟨_, List.getElem?_eq_getElem hlt⟩
          obtain ⟨b1, o1, rfl, l1, q1⟩ := SlE.at_ hBk (by rw [List.length_map]; omega)
          have he : (s.bs.map bkC)[k]? = some (bkC x) := by rw [List.getElem?_map, hx]; rfl
          have x1 := q1 k _ he 1 _ rfl
          have hnx := fm_take_nx bkL hx
          rw [bkL_lenE] at hnx
          have hle := fm_take_le bkL s.bs (k + 1)
          have h33 := H3.out
          have z0 : (0 : Int) ≤ (k : Int) := by omega
          have z1 : (k : Int) < (s.bs.length : Int) := by omega
          have z2 : N + 4 + x.nm.size ≤ 100000 := by omega
          have z3 := HF.out.bl
          have HNX := Lib.hid hnx
          have HN := Lib.hid hN
          clear he q1 hx hnx hle h33 hN
          go_wp2_with fail
          go_round
          case rel => exact ⟨k + 1, N + 4 + x.nm.size, by omega, by go_num, by go_num, by have := HNX.out; have := HN.out; omega⟩
          case measure => simp [intOf]; omega
        · obtain rfl : k = s.bs.length := by omega
          rw [List.take_length] at hN
          have h33 := H3.out
          have z2 : N ≤ 100000 := by omega
          have HN := Lib.hid hN
          clear hN h33 hlt hk
          go_wp2_with fail
          go_loopw [3, 5] (fun s3 s5 wr => ∃ (k M : Nat), k ≤ s.ts.length ∧ s5 = .int .i64 (k : Int) ∧ s3 = .int .i64 (M : Int) ∧ M = N + ((s.ts.take k).flatMap ntL).length ∧ Below wa.heap.size wa wr) (fun _ s5 _ => s.ts.length - (intOf s5).toNat)
          case atStart => exact ⟨0, N, Nat.zero_le _, rfl, rfl, rfl, Below.refl _ _⟩
          case round =>
            obtain ⟨k, M, hk, rfl, rfl, hM, hbr⟩ := hrel
            have HBr := btr HB HB.size hbr
            have C1 := B1.below hbr B1.lt
            (try clear k0 k1 k2 k3 k4)
            have k4 := C1.cell_ 4
            simp at k4
            by_cases hlt : k < s.ts.length
            · obtain ⟨n, hn⟩ : ∃ n, s.ts[k]? = some n := ⟨_, List.getElem?_eq_getElem hlt⟩
              obtain ⟨e1, he1⟩ : ∃ e, es[k]? = some e := ⟨_, List.getElem?_eq_getElem (by have := HEL.out; omega)⟩
              obtain ⟨A1, c1, A2, c2, rfl, p1, p2, -⟩ := (HNT.out k n e1 hn he1).ex
              obtain ⟨b1, o1, rfl, l1, q1⟩ := hse.at_ (by have := HEL.out; omega)
              have x0 : wr.cell? ⟨b1, o1 + k * 5 + 0, none⟩ = some (.int .i64 n.id) := (hbr.cell (p := ⟨b1, _, none⟩) l1).trans (q1 k _ he1 0 _ rfl)
              have x1 : wr.cell? ⟨b1, o1 + k * 5 + 1, none⟩ = some (.int .i64 n.bk) := (hbr.cell (p := ⟨b1, _, none⟩) l1).trans (q1 k _ he1 1 _ rfl)
              have x2 : wr.cell? ⟨b1, o1 + k * 5 + 2, none⟩ = some (.string n.nm) := (hbr.cell (p := ⟨b1, _, none⟩) l1).trans (q1 k _ he1 2 _ rfl)
              have x3 : wr.cell? ⟨b1, o1 + k * 5 + 3, none⟩ = some (.slice A1 n.tg.length c1) := (hbr.cell (p := ⟨b1, _, none⟩) l1).trans (q1 k _ he1 3 _ rfl)
              have x4 : wr.cell? ⟨b1, o1 + k * 5 + 4, none⟩ = some (.slice A2 n.sh.length c2) := (hbr.cell (p := ⟨b1, _, none⟩) l1).trans (q1 k _ he1 4 _ rfl)
              simp only [Nat.add_zero] at x0
              have hnx := fm_take_nx ntL hn
              rw [ntL_len2] at hnx
              have hle := fm_take_le ntL s.ts (k + 1)
              have h33 := H3.out
              have hNo := HN.out
              have hq1 := fm_take_le nmL n.tg
              obtain ⟨tl, htl⟩ : ∃ m, n.tg.length = m := ⟨_, rfl⟩
              obtain ⟨sl, hsl⟩ : ∃ m, n.sh.length = m := ⟨_, rfl⟩
              obtain ⟨TT, hTT⟩ : ∃ m, (n.tg.flatMap nmL).length = m := ⟨_, rfl⟩
              rw [hTT] at hq1
              rw [hsl, hTT] at hnx
              have z0 : (0 : Int) ≤ (k : Int) := by omega
              have z1 : (k : Int) < (s.ts.length : Int) := by omega
              have z2 : M + 9 + n.nm.size + 2 * sl + TT ≤ 100000 := by omega
              have z3 : M ≤ 100000 := by omega
              have z4 : n.nm.size ≤ 100000 := by omega
              have z5 : sl ≤ 100000 := by omega
              rw [htl] at x3
              rw [hsl] at x4
              have HNX := Lib.hid hnx
              have HM9 := Lib.hid hM
              have HTL := Lib.hid htl
              have HQ1 := Lib.hid hq1
              have HTT := Lib.hid hTT
              have z6 := HF.out.tl
              have NB0 := Blk.new_ wr 52 #[.int .i64 n.id, .int .i64 n.bk, .string n.nm, .slice A1 tl c1, .slice A2 sl c2]
              have D : Below wr.heap.size wr (wr.alloc (.cells #[.int .i64 n.id, .int .i64 n.bk, .string n.nm, .slice A1 tl c1, .slice A2 sl c2] 52)) := (Below.refl _ _).alloc (Nat.le_refl _) _
              have P1 := ((p1.below hbr).mono_ hbr.size).next D
              have htb : tl ≤ 100000 := by
                rw [← htl]
                have : n.tg.length ≤ (n.tg.flatMap nmL).length := len_fm n.tg
                omega
              clear hn he1 q1 hnx hle h33 hNo hM htl hsl hq1 hTT
              go_upto_region 15 with fail
              obtain ⟨gn, hgn⟩ : ∃ g, wr.heap.size = g := ⟨_, rfl⟩
              obtain ⟨wb, hwb⟩ : ∃ V : World, V = wr.alloc (.cells #[.int .i64 n.id, .int .i64 n.bk, .string n.nm, .slice A1 tl c1, .slice A2 sl c2] 52) := ⟨_, rfl⟩
              rw [← hwb] at NB0 D P1 ⊢
              have hbb := btr hbr hbr.size D
              rw [hgn] at NB0 ⊢
              clear hwb x0 x1 x2 x3 x4 D
              have n3 := NB0.cell_ 3
              simp at n3
              go_wp2_with fail
              go_loop [3, 7] (fun s3 s7 => ∃ (i R : Nat), i ≤ tl ∧ s7 = .int .i64 (i : Int) ∧ s3 = .int .i64 (R : Int) ∧ R = M + 9 + n.nm.size + 2 * sl + ((n.tg.take i).flatMap nmL).length) (fun _ s7 => tl - (intOf s7).toNat)
              case atStart => exact ⟨0, M + 9 + n.nm.size + 2 * sl, Nat.zero_le _, by go_num, by go_num, by simp⟩
              case round =>
                obtain ⟨i, R, hi, rfl, rfl, hR⟩ := hrel
                by_cases hlt2 : i < tl
                · have hil : i < n.tg.length := by have := HTL.out; omega
                  obtain ⟨x, hx⟩ : ∃ x, n.tg[i]? = some x := ⟨_, List.getElem?_eq_getElem hil⟩
                  obtain ⟨b2, o2, rfl, l2, q2⟩ := P1.at_ (by rw [List.length_map]; omega)
                  have x1 := q2 i (.string x) (by rw [List.getElem?_map, hx]; rfl)
                  have hnx := fm_take_nx nmL hx
                  have hnl : (nmL x).length = x.size + 1 := by simp [nmL, bytN]
                  rw [hnl] at hnx
                  have hle := fm_take_le nmL n.tg (i + 1)
                  rw [HTT.out] at hle
                  have y0 : (0 : Int) ≤ (i : Int) := by omega
                  have y1 : (i : Int) < (tl : Int) := by omega
                  have y2 : R + 1 + x.size ≤ 100000 := by omega
                  have HNX2 := Lib.hid hnx
                  have HR := Lib.hid hR
                  clear hil hx q2 hnx hnl hle hR
                  go_wp2_with fail
                  go_round
                  case rel => exact ⟨i + 1, R + 1 + x.size, by omega, by go_num, by go_num, by have := HNX2.out; have := HR.out; omega⟩
                  case measure => simp [intOf]; omega
                · obtain rfl : i = tl := by omega
                  rw [List.take_of_length_le (Nat.le_of_eq HTL.out)] at hR
                  have HR := Lib.hid hR
                  have hRb : R ≤ 100000 := by rw [hR, HTT.out]; omega
                  clear hR
                  go_wp2_with fail
                  go_roundw
                  case rel => exact ⟨k + 1, R, by omega, by go_num, rfl, by have h1 := HNX.out; have h2 := HM9.out; have h3 := HR.out; have h4 := HTT.out; omega, hbb⟩
                  case measure => simp [intOf]; omega
            · obtain rfl : k = s.ts.length := by omega
              rw [List.take_length] at hM
              have h33 := H3.out
              have hNo := HN.out
              obtain rfl : L = M := by omega
              clear hM h33 hNo k4
              obtain ⟨k0, k1, k2, k3, k4⟩ := cell5 C1
              have hbr2 := hbr
              replace HB := HBr
              replace B1 := C1
              clear hbr HBr
              go_wp2_with (first | (go_at_call 10; ((with_reducible refine (layL s _ _ ((hS0.below HB).mono HB.size) (Tabs.next hT0 HB) HF.out L HL.out).mono ?_); rintro e' wN ⟨g1, c1, rfl, hr1, bx⟩; clear hr1; have HB := btr HB HB.size bx; have B1 := B1.below bx B1.lt; clear bx; (try clear k0 k1 k2 k3 k4); obtain ⟨k0, k1, k2, k3, k4⟩ := cell5 B1)) | (go_at_call 14; ((with_reducible refine (size_any s _ _ ((hS0.below HB).mono HB.size) (Tabs.next hT0 HB) L HLS.out).mono ?_); rintro e' wN ⟨rfl, bx⟩; have HB := btr HB HB.size bx; have B1 := B1.below bx B1.lt; clear bx; (try clear k0 k1 k2 k3 k4); obtain ⟨k0, k1, k2, k3, k4⟩ := cell5 B1)) | (go_at_call 9; ((with_reducible refine (awakeC_any _ (Tabs.next hT0 HB)).mono ?_); rintro e' wN ⟨rfl, bx⟩; have HB := btr HB HB.size bx; clear bx)))
              go_ret
              exact ⟨rfl, HB⟩
    · have HM := Lib.hid hm
      have HLS : Hid ((cond (mayS s) (shL s) []).length = 0) := Lib.hid (by rw [hm]; rfl)
      clear hm
      go_enter Tryd.func7, Tryd.ntmps7
      go_wp2_with (first | (go_at_call 8; ((with_reducible refine (greatShelf_any s _ _ ((hS0.below HB).mono HB.size) _ HG.out).mono ?_); rintro e' wN ⟨rfl, bx⟩; have HB := btr HB HB.size bx; have B1 := B1.below bx B1.lt; clear bx; (try clear k0 k1 k2 k3 k4); obtain ⟨k0, k1, k2, k3, k4⟩ := cell5 B1)) | (go_at_call 23; ((with_reducible refine (smay_any s _ _ ((hS0.below HB).mono HB.size) (Tabs.next hT0 HB) false HM.out).mono ?_); rintro e' wN ⟨rfl, bx⟩; have HB := btr HB HB.size bx; have B1 := B1.below bx B1.lt; clear bx; (try clear k0 k1 k2 k3 k4); obtain ⟨k0, k1, k2, k3, k4⟩ := cell5 B1)) | (go_at_call 14; ((with_reducible refine (size_any s _ _ ((hS0.below HB).mono HB.size) (Tabs.next hT0 HB) 0 HLS.out).mono ?_); rintro e' wN ⟨rfl, bx⟩; have HB := btr HB HB.size bx; have B1 := B1.below bx B1.lt; clear bx; (try clear k0 k1 k2 k3 k4); obtain ⟨k0, k1, k2, k3, k4⟩ := cell5 B1)) | (go_at_call 9; ((with_reducible refine (awakeC_any _ (Tabs.next hT0 HB)).mono ?_); rintro e' wN ⟨rfl, bx⟩; have HB := btr HB HB.size bx; clear bx)))
      go_ret
      exact ⟨rfl, HB⟩
end Go.Proofs.YtllnfociddodcaaDoor
namespace Go.Proofs.YtllnfociddodcaaDoor
open Go.ChangeShapes Go.WideShapes Go.ChangeAt Go.RowKit
theorem acc_eq : Rows.laid_unicode_utf8_acceptRanges = Lib.acceptData := by kernel_rfl
theorem first_eq : Rows.laid_unicode_utf8_first = Lib.firstData := Pinned.utf8First_eq
def laidTabs : List (String × DataW Unit) := [("unicode/utf8.acceptRanges", Lib.acceptData), ("unicode/utf8.first", Lib.firstData)]
theorem laid_eq : [("unicode/utf8.acceptRanges", Rows.laid_unicode_utf8_acceptRanges), ("unicode/utf8.first", Rows.laid_unicode_utf8_first)] = laidTabs := by rw [acc_eq, first_eq]; rfl
noncomputable def laidWorld (os : Os) : World :=
  let w0 := World.holding Tryd.prog os ⟨#[], #[], []⟩
  let put (h : Array Obj) (g : Nat) (cs : Array Value) : Array Obj := h.modify g fun
    | .cells _ t frozen => .cells cs t frozen
    | o => o
  let h1 := put w0.heap 0 (Lib.firstTab.map fun z => Value.int .u8 z).toArray
  let h2 := put h1 1 ((List.range 16).flatMap fun i => [Value.int .u8 (Lib.accLo i), Value.int .u8 (Lib.accHi i)]).toArray
  { w0 with heap := h2 }
theorem noHandle (w : World) : laidMetH Tryd.prog laidTabs w ↔ laidMet Tryd.prog laidTabs w := by
  have e : (laidTabs.filter fun x => x.2.handleName?.isSome) = [] := by kernel_rfl
  unfold laidMetH
  rw [e]
theorem laid_met (os : Os) (args : Array Value) : laidMetH Tryd.prog [("unicode/utf8.acceptRanges", Rows.laid_unicode_utf8_acceptRanges), ("unicode/utf8.first", Rows.laid_unicode_utf8_first)] ((laidWorld os).forCall (fun _ _ => 0) ⟨#[], args, []⟩).memory := by
  rw [laid_eq, noHandle]
  exact (LaidIn.of_run (l := laidTabs) [0, 1] 8 (by kernel_rfl) (by kernel_rfl) (by kernel_rfl) (by kernel_rfl)).met
theorem tabs_of {W : World} (h : laidMetH Tryd.prog [("unicode/utf8.acceptRanges", Rows.laid_unicode_utf8_acceptRanges), ("unicode/utf8.first", Rows.laid_unicode_utf8_first)] W) : Tabs W := by
  rw [laid_eq, noHandle] at h
  exact utf8Tabs_of_readsT (U8Types.of196 Tryd.laysValid) ⟨by kernel_rfl, by kernel_rfl, by kernel_rfl, by kernel_rfl, by kernel_rfl, by kernel_rfl, by kernel_rfl⟩ (Lib.laidMet.reads h (.tail _ (.head _))) (Lib.laidMet.reads h (.head _))
end Go.Proofs.YtllnfociddodcaaDoor
