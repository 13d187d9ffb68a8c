/- coding.Read. -/
import Derived.Test.YtllnfociddodcaaDoorCr2
import Derived.Test.YtllnfociddodcaaDoorCr1
import Derived.Deep.RegionHeld3
import Derived.Deep.DrawnRows
import Derived.Deep.DeepCutAuto
set_option linter.unusedSimpArgs false
set_option linter.unusedVariables false
set_option maxRecDepth 100000
set_option maxHeartbeats 16000000
namespace Go.Proofs.YtllnfociddodcaaDoor
open Go.ChangeShapes Go.WideShapes Go.ChangeAt Go.RowKit
attribute [local go_sem ↓] Go.wp_at_zero Go.wp_at_succ
attribute [local go_sem ↓] Go.wp_at_zero Go.wp_at_succ
def NbX (w0 wr : World) : Prop := ∃ x0 x1 x2 x3 x4, Blk wr (w0.heap.size + 2) 52 #[x0, x1, x2, x3, x4]
theorem NbX.row {w0 wr w' : World} {row : Option Nat} (h : NbX w0 wr) (hg : wr.grownBy w' row) (hne : row ≠ some (w0.heap.size + 2)) : NbX w0 w' := by
  obtain ⟨x0, x1, x2, x3, x4, h⟩ := h
  exact ⟨x0, x1, x2, x3, x4, h.grownR hg hne⟩
theorem NbX.below {w0 wr w' : World} (h : NbX w0 wr) (hb : Below wr.heap.size wr w') : NbX w0 w' := by
  obtain ⟨x0, x1, x2, x3, x4, h⟩ := h
  exact ⟨x0, x1, x2, x3, x4, h.below hb h.lt⟩
theorem NbX.call {w0 wr w' : World} (h : NbX w0 wr) (hg : wr.grownBy w' (some (w0.heap.size + 3))) : NbX w0 w' := h.row hg (fun e => by injection e; omega)
theorem NbX.one {w0 wr w' : World} {k : Nat} (h : NbX w0 wr) (hg : wr.grownBy w' (some k)) (hk : k = w0.heap.size + 1) : NbX w0 w' := h.row hg (fun e => by injection e; omega)
def J1 (w0 : World) (F : Sf × Rr) (n : Nat) (a : Act) (wr : World) : Prop := ∃ (k : Nat) (s : Sf) (vb vn : Value) (es : List (List Value)) (r : Rr) (kz : Int) (u : Nat → Value), a = { tmps := #[u 0, u 1, .pointer (some ⟨w0.heap.size, 0, none⟩), u 3, .pointer (some ⟨w0.heap.size + 1, 0, none⟩), .pointer (some ⟨w0.heap.size + 2, 0, none⟩), .int .i64 kz, u 7, u 8, u 9, .pointer (some ⟨w0.heap.size + 3, 0, none⟩), u 11, u 12, u 13, u 14, u 15, u 16, u 17, u 18, u 19, u 20, u 21, u 22, u 23, u 24, u 25, u 26, u 27, u 28, u 29, u 30, u 31, u 32, u 33, u 34, u 35, u 36, u 37, u 38, u 39, u 40, u 41, u 42, u 43, u 44, u 45, u 46, u 47, u 48, u 49, u 50, u 51, u 52, u 53, u 54, u 55, u 56, u 57, u 58, u 59, u 60, u 61, u 62, u 63, u 64, u 65, u 66, u 67, u 68, u 69, u 70, u 71, u 72, u 73, u 74, u 75, u 76, u 77, u 78, u 79, u 80, u 81, u 82, u 83, u 84, u 85, u 86, u 87, u 88, u 89, u 90, u 91, u 92, u 93, u 94, u 95, u 96, u 97, u 98, u 99, u 100, u 101, u 102], defers := [] } ∧ RdM w0 wr s vb vn es r ∧ NbX w0 wr ∧ Hid (kz = (k : Int)) ∧ Hid (k + s.bs.length ≤ 255 ∧ s.ts = []) ∧ Hid (conB k s r = F) ∧ 153600 + k + 2 ≤ n
theorem J1.mk {w0 : World} {F : Sf × Rr} {n : Nat} {wr : World} {k : Nat} {s : Sf} {vb vn : Value} {es : List (List Value)} {r : Rr} {kz : Int} {u0 u1 u3 u7 u8 u9 u11 u12 u13 u14 u15 u16 u17 u18 u19 u20 u21 u22 u23 u24 u25 u26 u27 u28 u29 u30 u31 u32 u33 u34 u35 u36 u37 u38 u39 u40 u41 u42 u43 u44 u45 u46 u47 u48 u49 u50 u51 u52 u53 u54 u55 u56 u57 u58 u59 u60 u61 u62 u63 u64 u65 u66 u67 u68 u69 u70 u71 u72 u73 u74 u75 u76 u77 u78 u79 u80 u81 u82 u83 u84 u85 u86 u87 u88 u89 u90 u91 u92 u93 u94 u95 u96 u97 u98 u99 u100 u101 u102 : Value} (hh : RdM w0 wr s vb vn es r ∧ NbX w0 wr ∧ Hid (kz = (k : Int)) ∧ Hid (k + s.bs.length ≤ 255 ∧ s.ts = []) ∧ Hid (conB k s r = F) ∧ 153600 + k + 2 ≤ n) : J1 w0 F n { tmps := #[u0, u1, .pointer (some ⟨w0.heap.size, 0, none⟩), u3, .pointer (some ⟨w0.heap.size + 1, 0, none⟩), .pointer (some ⟨w0.heap.size + 2, 0, none⟩), .int .i64 kz, u7, u8, u9, .pointer (some ⟨w0.heap.size + 3, 0, none⟩), u11, u12, u13, u14, u15, u16, u17, u18, u19, u20, u21, u22, u23, u24, u25, u26, u27, u28, u29, u30, u31, u32, u33, u34, u35, u36, u37, u38, u39, u40, u41, u42, u43, u44, u45, u46, u47, u48, u49, u50, u51, u52, u53, u54, u55, u56, u57, u58, u59, u60, u61, u62, u63, u64, u65, u66, u67, u68, u69, u70, u71, u72, u73, u74, u75, u76, u77, u78, u79, u80, u81, u82, u83, u84, u85, u86, u87, u88, u89, u90, u91, u92, u93, u94, u95, u96, u97, u98, u99, u100, u101, u102], defers := [] } wr :=
  ⟨k, s, vb, vn, es, r, kz, fun i => (#[u0, u1, undef, u3, undef, undef, undef, u7, u8, u9, undef, u11, u12, u13, u14, u15, u16, u17, u18, u19, u20, u21, u22, u23, u24, u25, u26, u27, u28, u29, u30, u31, u32, u33, u34, u35, u36, u37, u38, u39, u40, u41, u42, u43, u44, u45, u46, u47, u48, u49, u50, u51, u52, u53, u54, u55, u56, u57, u58, u59, u60, u61, u62, u63, u64, u65, u66, u67, u68, u69, u70, u71, u72, u73, u74, u75, u76, u77, u78, u79, u80, u81, u82, u83, u84, u85, u86, u87, u88, u89, u90, u91, u92, u93, u94, u95, u96, u97, u98, u99, u100, u101, u102] : Array Value).getD i undef, rfl, hh⟩
def J0 (w0 : World) (F : Sf × Rr) (n : Nat) (a : Act) (wr : World) : Prop := ∃ (j : Nat) (s : Sf) (vb vn : Value) (es : List (List Value)) (r : Rr) (jz : Int) (u : Nat → Value), a = { tmps := #[u 0, u 1, .pointer (some ⟨w0.heap.size, 0, none⟩), u 3, .pointer (some ⟨w0.heap.size + 1, 0, none⟩), .pointer (some ⟨w0.heap.size + 2, 0, none⟩), u 6, .int .i64 jz, u 8, u 9, .pointer (some ⟨w0.heap.size + 3, 0, none⟩), u 11, u 12, u 13, u 14, u 15, u 16, u 17, u 18, u 19, u 20, u 21, u 22, u 23, u 24, u 25, u 26, u 27, u 28, u 29, u 30, u 31, u 32, u 33, u 34, u 35, u 36, u 37, u 38, u 39, u 40, u 41, u 42, u 43, u 44, u 45, u 46, u 47, u 48, u 49, u 50, u 51, u 52, u 53, u 54, u 55, u 56, u 57, u 58, u 59, u 60, u 61, u 62, u 63, u 64, u 65, u 66, u 67, u 68, u 69, u 70, u 71, u 72, u 73, u 74, u 75, u 76, u 77, u 78, u 79, u 80, u 81, u 82, u 83, u 84, u 85, u 86, u 87, u 88, u 89, u 90, u 91, u 92, u 93, u 94, u 95, u 96, u 97, u 98, u 99, u 100, u 101, u 102], defers := [] } ∧ RdM w0 wr s vb vn es r ∧ NbX w0 wr ∧ Hid (jz = (j : Int)) ∧ Hid (j + s.ts.length ≤ 255) ∧ Hid (conN j s r = F) ∧ 600 * j + 1 ≤ n
theorem J0.mk {w0 : World} {F : Sf × Rr} {n : Nat} {wr : World} {j : Nat} {s : Sf} {vb vn : Value} {es : List (List Value)} {r : Rr} {jz : Int} {u0 u1 u3 u6 u8 u9 u11 u12 u13 u14 u15 u16 u17 u18 u19 u20 u21 u22 u23 u24 u25 u26 u27 u28 u29 u30 u31 u32 u33 u34 u35 u36 u37 u38 u39 u40 u41 u42 u43 u44 u45 u46 u47 u48 u49 u50 u51 u52 u53 u54 u55 u56 u57 u58 u59 u60 u61 u62 u63 u64 u65 u66 u67 u68 u69 u70 u71 u72 u73 u74 u75 u76 u77 u78 u79 u80 u81 u82 u83 u84 u85 u86 u87 u88 u89 u90 u91 u92 u93 u94 u95 u96 u97 u98 u99 u100 u101 u102 : Value} (hh : RdM w0 wr s vb vn es r ∧ NbX w0 wr ∧ Hid (jz = (j : Int)) ∧ Hid (j + s.ts.length ≤ 255) ∧ Hid (conN j s r = F) ∧ 600 * j + 1 ≤ n) : J0 w0 F n { tmps := #[u0, u1, .pointer (some ⟨w0.heap.size, 0, none⟩), u3, .pointer (some ⟨w0.heap.size + 1, 0, none⟩), .pointer (some ⟨w0.heap.size + 2, 0, none⟩), u6, .int .i64 jz, u8, u9, .pointer (some ⟨w0.heap.size + 3, 0, none⟩), u11, u12, u13, u14, u15, u16, u17, u18, u19, u20, u21, u22, u23, u24, u25, u26, u27, u28, u29, u30, u31, u32, u33, u34, u35, u36, u37, u38, u39, u40, u41, u42, u43, u44, u45, u46, u47, u48, u49, u50, u51, u52, u53, u54, u55, u56, u57, u58, u59, u60, u61, u62, u63, u64, u65, u66, u67, u68, u69, u70, u71, u72, u73, u74, u75, u76, u77, u78, u79, u80, u81, u82, u83, u84, u85, u86, u87, u88, u89, u90, u91, u92, u93, u94, u95, u96, u97, u98, u99, u100, u101, u102], defers := [] } wr :=
  ⟨j, s, vb, vn, es, r, jz, fun i => (#[u0, u1, undef, u3, undef, undef, u6, undef, u8, u9, undef, u11, u12, u13, u14, u15, u16, u17, u18, u19, u20, u21, u22, u23, u24, u25, u26, u27, u28, u29, u30, u31, u32, u33, u34, u35, u36, u37, u38, u39, u40, u41, u42, u43, u44, u45, u46, u47, u48, u49, u50, u51, u52, u53, u54, u55, u56, u57, u58, u59, u60, u61, u62, u63, u64, u65, u66, u67, u68, u69, u70, u71, u72, u73, u74, u75, u76, u77, u78, u79, u80, u81, u82, u83, u84, u85, u86, u87, u88, u89, u90, u91, u92, u93, u94, u95, u96, u97, u98, u99, u100, u101, u102] : Array Value).getD i undef, rfl, hh⟩
def J4 (w0 : World) (F : Sf × Rr) (n : Nat) (a : Act) (wr : World) : Prop := ∃ (j k : Nat) (s : Sf) (h : Nt) (vt : Value) (vb vn : Value) (es : List (List Value)) (r : Rr) (jz kz : Int) (u : Nat → Value), a = { tmps := #[u 0, u 1, .pointer (some ⟨w0.heap.size, 0, none⟩), u 3, .pointer (some ⟨w0.heap.size + 1, 0, none⟩), .pointer (some ⟨w0.heap.size + 2, 0, none⟩), u 6, .int .i64 jz, .int .i64 kz, u 9, .pointer (some ⟨w0.heap.size + 3, 0, none⟩), u 11, u 12, u 13, u 14, u 15, u 16, u 17, u 18, u 19, u 20, u 21, u 22, u 23, u 24, u 25, u 26, u 27, u 28, u 29, u 30, u 31, u 32, u 33, u 34, u 35, u 36, u 37, u 38, u 39, u 40, u 41, u 42, u 43, u 44, u 45, u 46, u 47, u 48, u 49, u 50, u 51, u 52, u 53, u 54, u 55, u 56, u 57, u 58, u 59, u 60, u 61, u 62, u 63, u 64, u 65, u 66, u 67, u 68, u 69, u 70, u 71, u 72, u 73, u 74, u 75, u 76, u 77, u 78, u 79, u 80, u 81, u 82, u 83, u 84, u 85, u 86, u 87, u 88, u 89, u 90, u 91, u 92, u 93, u 94, u 95, u 96, u 97, u 98, u 99, u 100, u 101, u 102], defers := [] } ∧ RdM w0 wr s vb vn es r ∧ NbM w0 wr h vt (.slice none 0 0) es ∧ Hid (jz = (j : Int) ∧ kz = (k : Int)) ∧ Hid (j + s.ts.length + 1 ≤ 255 ∧ k + h.tg.length ≤ 255 ∧ h.sh = []) ∧ Hid (conT j s h k r = F) ∧ 600 * j + 300 + k ≤ n
theorem J4.mk {w0 : World} {F : Sf × Rr} {n : Nat} {wr : World} {j k : Nat} {s : Sf} {h : Nt} {vt : Value} {vb vn : Value} {es : List (List Value)} {r : Rr} {jz kz : Int} {u0 u1 u3 u6 u9 u11 u12 u13 u14 u15 u16 u17 u18 u19 u20 u21 u22 u23 u24 u25 u26 u27 u28 u29 u30 u31 u32 u33 u34 u35 u36 u37 u38 u39 u40 u41 u42 u43 u44 u45 u46 u47 u48 u49 u50 u51 u52 u53 u54 u55 u56 u57 u58 u59 u60 u61 u62 u63 u64 u65 u66 u67 u68 u69 u70 u71 u72 u73 u74 u75 u76 u77 u78 u79 u80 u81 u82 u83 u84 u85 u86 u87 u88 u89 u90 u91 u92 u93 u94 u95 u96 u97 u98 u99 u100 u101 u102 : Value} (hh : RdM w0 wr s vb vn es r ∧ NbM w0 wr h vt (.slice none 0 0) es ∧ Hid (jz = (j : Int) ∧ kz = (k : Int)) ∧ Hid (j + s.ts.length + 1 ≤ 255 ∧ k + h.tg.length ≤ 255 ∧ h.sh = []) ∧ Hid (conT j s h k r = F) ∧ 600 * j + 300 + k ≤ n) : J4 w0 F n { tmps := #[u0, u1, .pointer (some ⟨w0.heap.size, 0, none⟩), u3, .pointer (some ⟨w0.heap.size + 1, 0, none⟩), .pointer (some ⟨w0.heap.size + 2, 0, none⟩), u6, .int .i64 jz, .int .i64 kz, u9, .pointer (some ⟨w0.heap.size + 3, 0, none⟩), u11, u12, u13, u14, u15, u16, u17, u18, u19, u20, u21, u22, u23, u24, u25, u26, u27, u28, u29, u30, u31, u32, u33, u34, u35, u36, u37, u38, u39, u40, u41, u42, u43, u44, u45, u46, u47, u48, u49, u50, u51, u52, u53, u54, u55, u56, u57, u58, u59, u60, u61, u62, u63, u64, u65, u66, u67, u68, u69, u70, u71, u72, u73, u74, u75, u76, u77, u78, u79, u80, u81, u82, u83, u84, u85, u86, u87, u88, u89, u90, u91, u92, u93, u94, u95, u96, u97, u98, u99, u100, u101, u102], defers := [] } wr :=
  ⟨j, k, s, h, vt, vb, vn, es, r, jz, kz, fun i => (#[u0, u1, undef, u3, undef, undef, u6, undef, undef, u9, undef, u11, u12, u13, u14, u15, u16, u17, u18, u19, u20, u21, u22, u23, u24, u25, u26, u27, u28, u29, u30, u31, u32, u33, u34, u35, u36, u37, u38, u39, u40, u41, u42, u43, u44, u45, u46, u47, u48, u49, u50, u51, u52, u53, u54, u55, u56, u57, u58, u59, u60, u61, u62, u63, u64, u65, u66, u67, u68, u69, u70, u71, u72, u73, u74, u75, u76, u77, u78, u79, u80, u81, u82, u83, u84, u85, u86, u87, u88, u89, u90, u91, u92, u93, u94, u95, u96, u97, u98, u99, u100, u101, u102] : Array Value).getD i undef, rfl, hh⟩
def J3 (w0 : World) (F : Sf × Rr) (n : Nat) (a : Act) (wr : World) : Prop := ∃ (j k : Nat) (s : Sf) (h : Nt) (vt vs : Value) (vb vn : Value) (es : List (List Value)) (r : Rr) (jz kz : Int) (u : Nat → Value), a = { tmps := #[u 0, u 1, .pointer (some ⟨w0.heap.size, 0, none⟩), u 3, .pointer (some ⟨w0.heap.size + 1, 0, none⟩), .pointer (some ⟨w0.heap.size + 2, 0, none⟩), u 6, .int .i64 jz, u 8, .int .i64 kz, .pointer (some ⟨w0.heap.size + 3, 0, none⟩), u 11, u 12, u 13, u 14, u 15, u 16, u 17, u 18, u 19, u 20, u 21, u 22, u 23, u 24, u 25, u 26, u 27, u 28, u 29, u 30, u 31, u 32, u 33, u 34, u 35, u 36, u 37, u 38, u 39, u 40, u 41, u 42, u 43, u 44, u 45, u 46, u 47, u 48, u 49, u 50, u 51, u 52, u 53, u 54, u 55, u 56, u 57, u 58, u 59, u 60, u 61, u 62, u 63, u 64, u 65, u 66, u 67, u 68, u 69, u 70, u 71, u 72, u 73, u 74, u 75, u 76, u 77, u 78, u 79, u 80, u 81, u 82, u 83, u 84, u 85, u 86, u 87, u 88, u 89, u 90, u 91, u 92, u 93, u 94, u 95, u 96, u 97, u 98, u 99, u 100, u 101, u 102], defers := [] } ∧ RdM w0 wr s vb vn es r ∧ NbM w0 wr h vt vs es ∧ Hid (jz = (j : Int) ∧ kz = (k : Int)) ∧ Hid (j + s.ts.length + 1 ≤ 255 ∧ k + h.sh.length ≤ 255) ∧ Hid (conS j s h k r = F) ∧ 600 * j + 2 + k ≤ n
theorem J3.mk {w0 : World} {F : Sf × Rr} {n : Nat} {wr : World} {j k : Nat} {s : Sf} {h : Nt} {vt vs : Value} {vb vn : Value} {es : List (List Value)} {r : Rr} {jz kz : Int} {u0 u1 u3 u6 u8 u11 u12 u13 u14 u15 u16 u17 u18 u19 u20 u21 u22 u23 u24 u25 u26 u27 u28 u29 u30 u31 u32 u33 u34 u35 u36 u37 u38 u39 u40 u41 u42 u43 u44 u45 u46 u47 u48 u49 u50 u51 u52 u53 u54 u55 u56 u57 u58 u59 u60 u61 u62 u63 u64 u65 u66 u67 u68 u69 u70 u71 u72 u73 u74 u75 u76 u77 u78 u79 u80 u81 u82 u83 u84 u85 u86 u87 u88 u89 u90 u91 u92 u93 u94 u95 u96 u97 u98 u99 u100 u101 u102 : Value} (hh : RdM w0 wr s vb vn es r ∧ NbM w0 wr h vt vs es ∧ Hid (jz = (j : Int) ∧ kz = (k : Int)) ∧ Hid (j + s.ts.length + 1 ≤ 255 ∧ k + h.sh.length ≤ 255) ∧ Hid (conS j s h k r = F) ∧ 600 * j + 2 + k ≤ n) : J3 w0 F n { tmps := #[u0, u1, .pointer (some ⟨w0.heap.size, 0, none⟩), u3, .pointer (some ⟨w0.heap.size + 1, 0, none⟩), .pointer (some ⟨w0.heap.size + 2, 0, none⟩), u6, .int .i64 jz, u8, .int .i64 kz, .pointer (some ⟨w0.heap.size + 3, 0, none⟩), u11, u12, u13, u14, u15, u16, u17, u18, u19, u20, u21, u22, u23, u24, u25, u26, u27, u28, u29, u30, u31, u32, u33, u34, u35, u36, u37, u38, u39, u40, u41, u42, u43, u44, u45, u46, u47, u48, u49, u50, u51, u52, u53, u54, u55, u56, u57, u58, u59, u60, u61, u62, u63, u64, u65, u66, u67, u68, u69, u70, u71, u72, u73, u74, u75, u76, u77, u78, u79, u80, u81, u82, u83, u84, u85, u86, u87, u88, u89, u90, u91, u92, u93, u94, u95, u96, u97, u98, u99, u100, u101, u102], defers := [] } wr :=
  ⟨j, k, s, h, vt, vs, vb, vn, es, r, jz, kz, fun i => (#[u0, u1, undef, u3, undef, undef, u6, undef, u8, undef, undef, u11, u12, u13, u14, u15, u16, u17, u18, u19, u20, u21, u22, u23, u24, u25, u26, u27, u28, u29, u30, u31, u32, u33, u34, u35, u36, u37, u38, u39, u40, u41, u42, u43, u44, u45, u46, u47, u48, u49, u50, u51, u52, u53, u54, u55, u56, u57, u58, u59, u60, u61, u62, u63, u64, u65, u66, u67, u68, u69, u70, u71, u72, u73, u74, u75, u76, u77, u78, u79, u80, u81, u82, u83, u84, u85, u86, u87, u88, u89, u90, u91, u92, u93, u94, u95, u96, u97, u98, u99, u100, u101, u102] : Array Value).getD i undef, rfl, hh⟩
def J2 (w0 : World) (F : Sf × Rr) (n : Nat) (a : Act) (wr : World) : Prop := ∃ (s : Sf) (vb vn : Value) (es : List (List Value)) (r : Rr) (u : Nat → Value), a = { tmps := #[u 0, u 1, .pointer (some ⟨w0.heap.size, 0, none⟩), u 3, .pointer (some ⟨w0.heap.size + 1, 0, none⟩), .pointer (some ⟨w0.heap.size + 2, 0, none⟩), u 6, u 7, u 8, u 9, .pointer (some ⟨w0.heap.size + 3, 0, none⟩), u 11, u 12, u 13, u 14, u 15, u 16, u 17, u 18, u 19, u 20, u 21, u 22, u 23, u 24, u 25, u 26, u 27, u 28, u 29, u 30, u 31, u 32, u 33, u 34, u 35, u 36, u 37, u 38, u 39, u 40, u 41, u 42, u 43, u 44, u 45, u 46, u 47, u 48, u 49, u 50, u 51, u 52, u 53, u 54, u 55, u 56, u 57, u 58, u 59, u 60, u 61, u 62, u 63, u 64, u 65, u 66, u 67, u 68, u 69, u 70, u 71, u 72, u 73, u 74, u 75, u 76, u 77, u 78, u 79, u 80, u 81, u 82, u 83, u 84, u 85, u 86, u 87, u 88, u 89, u 90, u 91, u 92, u 93, u 94, u 95, u 96, u 97, u 98, u 99, u 100, u 101, u 102], defers := [] } ∧ RdM w0 wr s vb vn es r ∧ Hid ((s, r) = F)
theorem J2.mk {w0 : World} {F : Sf × Rr} {n : Nat} {wr : World} {s : Sf} {vb vn : Value} {es : List (List Value)} {r : Rr} {u0 u1 u3 u6 u7 u8 u9 u11 u12 u13 u14 u15 u16 u17 u18 u19 u20 u21 u22 u23 u24 u25 u26 u27 u28 u29 u30 u31 u32 u33 u34 u35 u36 u37 u38 u39 u40 u41 u42 u43 u44 u45 u46 u47 u48 u49 u50 u51 u52 u53 u54 u55 u56 u57 u58 u59 u60 u61 u62 u63 u64 u65 u66 u67 u68 u69 u70 u71 u72 u73 u74 u75 u76 u77 u78 u79 u80 u81 u82 u83 u84 u85 u86 u87 u88 u89 u90 u91 u92 u93 u94 u95 u96 u97 u98 u99 u100 u101 u102 : Value} (hh : RdM w0 wr s vb vn es r ∧ Hid ((s, r) = F)) : J2 w0 F n { tmps := #[u0, u1, .pointer (some ⟨w0.heap.size, 0, none⟩), u3, .pointer (some ⟨w0.heap.size + 1, 0, none⟩), .pointer (some ⟨w0.heap.size + 2, 0, none⟩), u6, u7, u8, u9, .pointer (some ⟨w0.heap.size + 3, 0, none⟩), u11, u12, u13, u14, u15, u16, u17, u18, u19, u20, u21, u22, u23, u24, u25, u26, u27, u28, u29, u30, u31, u32, u33, u34, u35, u36, u37, u38, u39, u40, u41, u42, u43, u44, u45, u46, u47, u48, u49, u50, u51, u52, u53, u54, u55, u56, u57, u58, u59, u60, u61, u62, u63, u64, u65, u66, u67, u68, u69, u70, u71, u72, u73, u74, u75, u76, u77, u78, u79, u80, u81, u82, u83, u84, u85, u86, u87, u88, u89, u90, u91, u92, u93, u94, u95, u96, u97, u98, u99, u100, u101, u102], defers := [] } wr :=
  ⟨s, vb, vn, es, r, fun i => (#[u0, u1, undef, u3, undef, undef, u6, u7, u8, u9, undef, u11, u12, u13, u14, u15, u16, u17, u18, u19, u20, u21, u22, u23, u24, u25, u26, u27, u28, u29, u30, u31, u32, u33, u34, u35, u36, u37, u38, u39, u40, u41, u42, u43, u44, u45, u46, u47, u48, u49, u50, u51, u52, u53, u54, u55, u56, u57, u58, u59, u60, u61, u62, u63, u64, u65, u66, u67, u68, u69, u70, u71, u72, u73, u74, u75, u76, u77, u78, u79, u80, u81, u82, u83, u84, u85, u86, u87, u88, u89, u90, u91, u92, u93, u94, u95, u96, u97, u98, u99, u100, u101, u102] : Array Value).getD i undef, rfl, hh⟩
def JJ (w0 : World) (F : Sf × Rr) (l n : Nat) (a : Act) (wr : World) : Prop :=
  (l = 1 ∧ J1 w0 F n a wr) ∨ (l = 0 ∧ J0 w0 F n a wr) ∨ (l = 4 ∧ J4 w0 F n a wr) ∨ (l = 3 ∧ J3 w0 F n a wr) ∨ (l = 2 ∧ J2 w0 F n a wr)
def RdA (w0 : World) (b : List Nat) (e' : Ending) (w' : World) : Prop := ∃ v, e' = .returned (.tuple #[v, .int .i64 (cond (okR b) 0 5)]) ∧ ShW w' w0.heap.size v (cond (okR b) (rAll b).1 ⟨0, 0, 0, [], []⟩)
theorem nmb1_lt {r : Rr} (h : Bytes8 r.1) : (nmb 1 r).1 ≤ 255 := by
  have hb8 := (tk_8 (n := 1) h).1
  have h1 := numB_lt hb8 (Nat.le_refl _)
  rw [List.take_of_length_le (Nat.le_refl _)] at h1
  have h2 := tk_len 1 r
  have h3 : 256 ^ (tkR 1 r).1.length ≤ 256 ^ 1 := Nat.pow_le_pow_right (by decide) h2
  have h4 : (nmb 1 r).1 = numB (tkR 1 r).1 := rfl
  omega
theorem RdM.three {w0 wr : World} {vb vn : Value} {r : Rr} (h : RdM w0 wr ⟨0, 0, 0, [], []⟩ vb vn [] r) (a b c : Int) :
    ∃ wz, wz = ((wr.setCell ⟨w0.heap.size + 1, 0, none⟩ (.int .i64 a)).setCell ⟨w0.heap.size + 1, 1, none⟩ (.int .i64 b)).setCell ⟨w0.heap.size + 1, 2, none⟩ (.int .i64 c) ∧ RdM w0 wz ⟨a, b, c, [], []⟩ vb vn [] r ∧ wr.grownBy wz (some (w0.heap.size + 1)) := by
  have hg : wr.grownBy (((wr.setCell ⟨w0.heap.size + 1, 0, none⟩ (.int .i64 a)).setCell ⟨w0.heap.size + 1, 1, none⟩ (.int .i64 b)).setCell ⟨w0.heap.size + 1, 2, none⟩ (.int .i64 c)) (some (w0.heap.size + 1)) := grown_set (grown_set (set1_grown _ _ _ _) _ _) _ _
  have B1 := ((h.sb.set_ 0 (.int .i64 a)).set_ 1 (.int .i64 b)).set_ 2 (.int .i64 c)
  simp at B1
  have hlt : w0.heap.size + 1 < w0.heap.size + 4 := by omega
  exact ⟨_, rfl, ⟨h.hB.grown hg (Nat.le_trans (Nat.le_add_right _ 4) h.size) (fun k e => by cases e; omega), h.zb.grownR hg (fun e => by injection e; omega), B1, h.rp.row hg (Nat.le_add_right _ 3) (fun k e => by cases e; omega) (fun e => by injection e; omega), h.bk.far hg hlt, h.el, World.ownsRow.kept h.on hg (own_off h.on hlt), fun k n e a c => by simp at c⟩, hg⟩
theorem RdM.start (w0 : World) (b : List Nat) (n : Nat) (A : Option Addr) (c : Nat) (hn : b.length = n) (h : Sl w0 w0.heap.size A (b.map byteV)) (h8 : Bytes8 b) (hc : n ≤ c) (hcm : c ≤ maxLen) (n1 : n ≤ 100000) (hA : A = none → c = 0) :
    ∃ wz, wz = (((w0.alloc (.cells #[.int .i64 0, .int .i64 0, .int .i64 0, .slice none 0 0, .slice none 0 0] 25)).alloc (.cells #[.int .i64 0, .int .i64 0, .int .i64 0, .slice none 0 0, .slice none 0 0] 25)).alloc (.cells #[.int .i64 0, .int .i64 0, .string ⟨#[]⟩, .slice none 0 0, .slice none 0 0] 52)).alloc (.cells #[.slice A n c, .bool false] 59) ∧ RdM w0 wz ⟨0, 0, 0, [], []⟩ (.slice none 0 0) (.slice none 0 0) [] (b, false) ∧ NbX w0 wz ∧ wz.heap.size = w0.heap.size + 4 := by
  subst hn
  have B0 := ((((Blk.new_ w0 25 #[.int .i64 0, .int .i64 0, .int .i64 0, .slice none 0 0, .slice none 0 0]).alloc_ (.cells #[.int .i64 0, .int .i64 0, .int .i64 0, .slice none 0 0, .slice none 0 0] 25)).alloc_ (.cells #[.int .i64 0, .int .i64 0, .string ⟨#[]⟩, .slice none 0 0, .slice none 0 0] 52))).alloc_ (.cells #[.slice A b.length c, .bool false] 59)
  have B1 := ((Blk.new_ (w0.alloc (.cells #[.int .i64 0, .int .i64 0, .int .i64 0, .slice none 0 0, .slice none 0 0] 25)) 25 #[.int .i64 0, .int .i64 0, .int .i64 0, .slice none 0 0, .slice none 0 0]).alloc_ (.cells #[.int .i64 0, .int .i64 0, .string ⟨#[]⟩, .slice none 0 0, .slice none 0 0] 52)).alloc_ (.cells #[.slice A b.length c, .bool false] 59)
  have B2 := (Blk.new_ ((w0.alloc (.cells #[.int .i64 0, .int .i64 0, .int .i64 0, .slice none 0 0, .slice none 0 0] 25)).alloc (.cells #[.int .i64 0, .int .i64 0, .int .i64 0, .slice none 0 0, .slice none 0 0] 25)) 52 #[.int .i64 0, .int .i64 0, .string ByteArray.empty, .slice none 0 0, .slice none 0 0]).alloc_ (.cells #[.slice A b.length c, .bool false] 59)
  have B3 := Blk.new_ (((w0.alloc (.cells #[.int .i64 0, .int .i64 0, .int .i64 0, .slice none 0 0, .slice none 0 0] 25)).alloc (.cells #[.int .i64 0, .int .i64 0, .int .i64 0, .slice none 0 0, .slice none 0 0] 25)).alloc (.cells #[.int .i64 0, .int .i64 0, .string ⟨#[]⟩, .slice none 0 0, .slice none 0 0] 52)) 59 #[.slice A b.length c, .bool false]
  have hb : Below w0.heap.size w0 ((((w0.alloc (.cells #[.int .i64 0, .int .i64 0, .int .i64 0, .slice none 0 0, .slice none 0 0] 25)).alloc (.cells #[.int .i64 0, .int .i64 0, .int .i64 0, .slice none 0 0, .slice none 0 0] 25)).alloc (.cells #[.int .i64 0, .int .i64 0, .string ⟨#[]⟩, .slice none 0 0, .slice none 0 0] 52)).alloc (.cells #[.slice A b.length c, .bool false] 59)) := ((((Below.refl _ w0).alloc (Nat.le_refl _) _).alloc (by simp) _).alloc (by simp; omega) _).alloc (by simp; omega) _
  have e1 : ∀ (w : World) (o : Obj), (w.alloc o).heap.size = w.heap.size + 1 := fun w o => by simp
  simp only [e1] at B1 B2 B3
  exact ⟨_, rfl, ⟨hb, B0, B1, ⟨⟨A, c, B3, h.below hb, hc, hcm, hA⟩, h8, n1⟩, World.ownsRow_nil _ _ _ _, rfl, World.ownsRow_nil _ _ _ _, fun k n e a c => by simp at c⟩, ⟨_, _, _, _, _, B2⟩, by simp⟩
theorem RdM.fresh {w0 wr : World} {s : Sf} {vb vn : Value} {es : List (List Value)} {r : Rr} (h : RdM w0 wr s vb vn es r) (hx : NbX w0 wr) (a c : Int) (x : ByteArray) :
    ∃ wz, wz = st5 wr (w0.heap.size + 2) 0 (.int .i64 a) (.int .i64 c) (.string x) (.slice none 0 0) (.slice none 0 0) ∧ RdM w0 wz s vb vn es r ∧ NbM w0 wz ⟨a, c, x, [], []⟩ (.slice none 0 0) (.slice none 0 0) es := by
  obtain ⟨x0, x1, x2, x3, x4, hx⟩ := hx
  exact ⟨_, rfl, h.nbox (st5_grown _ _ _ _ _ _ _ _), NbM.fresh es a c x (hx.st5_ _ _ _ _ _)⟩
theorem cell5 {w : World} {g : Nat} {t : TypeId} {a b c d e : Value} (h : Blk w g t #[a, b, c, d, e]) : w.cell? ⟨g, 0, none⟩ = some a ∧ w.cell? ⟨g, 1, none⟩ = some b ∧ w.cell? ⟨g, 2, none⟩ = some c ∧ w.cell? ⟨g, 3, none⟩ = some d ∧ w.cell? ⟨g, 4, none⟩ = some e := by
  have h0 := h.cell_ 0
  have h1 := h.cell_ 1
  have h2 := h.cell_ 2
  have h3 := h.cell_ 3
  have h4 := h.cell_ 4
  simp at h0 h1 h2 h3 h4
  exact ⟨h0, h1, h2, h3, h4⟩
theorem oneI (x : Int) : ∀ u ∈ [Value.int .i64 x], u.oneCell' = true := fun u hu => by
  simp at hu
  subst hu
  rfl
theorem oneS (x : ByteArray) : ∀ u ∈ [strV x], u.oneCell' = true := fun u hu => by
  simp at hu
  subst hu
  rfl
theorem oneN (h : Nt) (A B : Option Addr) (m n c d : Nat) : ∀ u ∈ ntC h (.slice A m c) (.slice B n d), u.oneCell' = true := by
  intro u hu
  simp [ntC] at hu
  rcases hu with rfl | rfl | rfl | rfl | rfl <;> rfl
theorem rd_newNt (w : World) (h : Nt) (a b : Value) {g : Nat} (hg : g = w.heap.size) : Rd (w.alloc (.cells #[.int .i64 h.id, .int .i64 h.bk, .string h.nm, a, b] 52)) (some ⟨g, 0, none⟩) 1 5 (ntC h a b) := by
  subst hg
  refine ⟨rfl, Or.inr ⟨_, 0, rfl, fun j u hj => ?_⟩⟩
  rw [Joins.cell_of_block (heap_alloc_new w _), Nat.zero_add]
  simpa [ntC] using hj
theorem rd_new1 (w : World) (u : Value) (t : TypeId) {g : Nat} (hg : g = w.heap.size) : Rd (w.alloc (.cells #[u] t)) (some ⟨g, 0, none⟩) 1 1 [u] := by
  subst hg
  exact Rd.one (by rw [Joins.cell_of_block (heap_alloc_new w _)]; rfl)
theorem read_any (b : List Nat) (n : Nat) (A : Option Addr) (c : Nat) (w0 : World) (hn : b.length = n) (h : Sl w0 w0.heap.size A (b.map byteV)) (h8 : Bytes8 b) (hc : n ≤ c) (hcm : c ≤ maxLen) (n1 : n ≤ 100000) (hA : A = none → c = 0) (hT : Tabs w0) :
    Calls Tryd.prog 18 #[.slice A n c] w0 fun e' w' => RdA w0 b e' w' ∧ Below w0.heap.size w0 w' := by
  have HH := Lib.hid (And.intro hn h8)
  have HS := Lib.hid h
  have HA := Lib.hid hA
  have HT := Lib.hid hT
  clear hn h8 h hA hT
  go_enter Tryd.func18, Tryd.ntmps18
  go_wp2
  refine wp_scope_many (JJ w0 (rAll b)) ?_ ?_
  · intro l N a' wr hJ hcut
    have HC := Lib.hid hcut
    clear hcut
    rcases hJ with ⟨rfl, hJ⟩ | ⟨rfl, hJ⟩ | ⟨rfl, hJ⟩ | ⟨rfl, hJ⟩ | ⟨rfl, hJ⟩
    · obtain ⟨k, s, vb, vn, es, r, kz, u, rfl, hM, hX, hkz, hlb, hF, hn1⟩ := hJ
      refine ⟨_, (by simp only [findLabel, Nat.reduceBEq, if_true, if_false, Bool.false_eq_true]; rfl), ?_⟩
      by_cases hk0 : k = 0
      · subst hk0
        obtain rfl : kz = 0 := hkz.out
        have hle := nmb1_lt hM.rp.b8
        go_wp2_with (go_at_call 31; (have TK1 : Calls Tryd.prog 31 #[.pointer (some ⟨w0.heap.size + 3, 0, none⟩), .int .i64 1] _ _ := rnumb1 _ _ _ _ hM.rp (Nat.le_add_right _ _)); ((with_reducible refine TK1.mono ?_); rintro e' w1 ⟨rfl, hp, hg⟩; (try clear TK1); have hM := hM.call hg hp; have hX := hX.call hg; clear hp hg))
        go_step3
        exact (show ∃ m, m < N ∧ JJ w0 (rAll b) 0 m _ _ from ⟨600 * _ + 1, by omega, Or.inr (Or.inl ⟨rfl, J0.mk ⟨hM, hX, Lib.hid rfl, Lib.hid (by have := hlb.out.2; rw [this]; simp; omega), Lib.hid hF.out, Nat.le_refl _⟩⟩)⟩)
      · obtain ⟨K, rfl⟩ : ∃ K, k = K + 1 := ⟨k - 1, by omega⟩
        have l0 : ¬ kz = 0 := by have := hkz.out; omega
        have l1 : 1 ≤ kz := by have := hkz.out; omega
        have l2 : kz ≤ 255 := by have := hkz.out; have := hlb.out; omega
        have HKZ : Hid (kz - 1 = (K : Int)) := Lib.hid (by have := hkz.out; omega)
        obtain ⟨Ab, cb, rfl, -, -⟩ := own_shape hM.bk
        obtain ⟨m, hm⟩ : ∃ m, s.bs.length = m := ⟨_, rfl⟩
        rw [hm] at hM
        have hm2 : m ≤ 255 := by have := hlb.out; omega
        have HM := Lib.hid hm
        clear hm hk0
        go_upto_region 9 with fail
        replace hM := hM.below (drew_below (Below.refl _ wr))
        replace hX := hX.below (drew_below (Below.refl _ wr))
        obtain ⟨k0, k1, k2, k3, k4⟩ := cell5 hM.sb
        have f0 := hM.sb.free 0
        have f1 := hM.sb.free 1
        have f2 := hM.sb.free 2
        have f3 := hM.sb.free 3
        have f4 := hM.sb.free 4
        refine wp_region_noPanic ?_
        refine wp_region_held_drew (S := (fun _ => True)) (by kernel_rfl) ?_ (fun hHeld => ?_)
        · exact trivial
        refine tk 0 ?_; try simp only [Act.put, pz1, pz2, pz3]
        refine tk 2 ?_; try simp only [Act.put, pz1, pz2, pz3]
        refine tk 4 ?_; try simp only [Act.put, pz1, pz2, pz3]
        refine wpAnyH_ready (rs := [1, 3]) (by kernel_rfl) (by simp) ?_
        refine (AllReadyH.cons (o := ⟨some 30, .load 22 (.tmp 29), 22, "coding.go:96", #[⟨0, .data⟩], none⟩) rfl (fun K hK => ?_) (AllReadyH.cons (o := ⟨some 32, .call { callee := .value (.func 31), args := #[.tmp 31, .const (.int .i64 3)], argTypes := #[57, 3] }, 3, "coding.go:96", #[⟨2, .data⟩], none⟩) rfl (fun K hK => ?_) AllReadyH.nil))
        · go_simp
          refine hK.out _ _ ?_ (fun hNew => ?_)
          · exact trivial
          clear hK K hHeld
          have hHeld := hNew
          clear hNew
          try simp only [Act.put, pz1, pz2, pz3]
          refine wpAnyH_ready (rs := [3]) (by kernel_rfl) (by simp) ?_
          refine AllReadyH.cons (o := ⟨some 32, .call { callee := .value (.func 31), args := #[.tmp 31, .const (.int .i64 3)], argTypes := #[57, 3] }, 3, "coding.go:96", #[⟨2, .data⟩], none⟩) rfl (fun K hK => ?_) AllReadyH.nil
          go_simp
          (go_at_call 31; (have TK1 : Calls Tryd.prog 31 #[.pointer (some ⟨w0.heap.size + 3, 0, none⟩), .int .i64 3] _ _ := rnumb3 _ _ _ _ hM.rp (Nat.le_add_right _ _)); ((with_reducible refine TK1.mono ?_); rintro e' w1 ⟨rfl, hp, hg⟩; (try clear TK1); have hM := hM.call hg hp; have hX := hX.call hg; clear hp hg; (try clear k0 k1 k2 k3 k4 f0 f1 f2 f3 f4); obtain ⟨k0, k1, k2, k3, k4⟩ := cell5 hM.sb; have f0 := hM.sb.free 0; have f1 := hM.sb.free 1; have f2 := hM.sb.free 2; have f3 := hM.sb.free 3; have f4 := hM.sb.free 4))
          go_wp2_with fail
          refine hK.out _ _ ?_ (fun hNew => ?_)
          · exact trivial
          clear hK K hHeld
          have hHeld := hNew
          clear hNew
          try simp only [Act.put, pz1, pz2, pz3]
          refine wpAnyH_ready (rs := [5]) (by kernel_rfl) (by simp) ?_
          refine AllReadyH.cons (o := ⟨some 34, .call { callee := .value (.func 32), args := #[.tmp 33], argTypes := #[57] }, 9, "coding.go:96", #[⟨4, .data⟩, ⟨3, .chain⟩], none⟩) rfl (fun K hK => ?_) AllReadyH.nil
          go_simp
          (go_at_call 32; ((with_reducible refine (rname_any _ _ _ _ hM.rp (Nat.le_add_right _ _)).mono ?_); rintro e' w2 ⟨rfl, hp, hg⟩; have hM := hM.call hg hp; have hX := hX.call hg; clear hp hg; (try clear k0 k1 k2 k3 k4 f0 f1 f2 f3 f4); obtain ⟨k0, k1, k2, k3, k4⟩ := cell5 hM.sb; have f0 := hM.sb.free 0; have f1 := hM.sb.free 1; have f2 := hM.sb.free 2; have f3 := hM.sb.free 3; have f4 := hM.sb.free 4; have ka := (cell5 (hM.sb.alloc_ (.cells #[.int .i64 ((nmb 3 r).1 : Int), .string (txt (nmb 3 r).2).1] 48))).2.2.2.1))
          go_wp2_with fail
          refine hK.out _ _ ?_ (fun hNew => ?_)
          · exact trivial
          clear hK K hHeld
          have hHeld := hNew
          clear hNew
          try simp only [Act.put, pz1, pz2, pz3]
          refine tk 6 ?_; try simp only [Act.put, pz1, pz2, pz3]
          refine wpAnyH_ready (rs := [7]) (by kernel_rfl) (by simp) ?_
          refine AllReadyH.cons (o := ⟨some 36, .buildSlice 22 1 #[(0, .tmp 35)], 22, "coding.go:96", #[⟨6, .data⟩], none⟩) rfl (fun K hK => ?_) AllReadyH.nil
          go_simp
          refine hK.out _ _ ?_ (fun hNew => ?_)
          · exact trivial
          clear hK K hHeld
          have hHeld := hNew
          clear hNew
          try simp only [Act.put, pz1, pz2, pz3]
          refine wpAnyH_ready (rs := [8]) (by kernel_rfl) (by simp) ?_
          refine AllReadyH.cons (o := ⟨some 37, .call { callee := .builtin .append, args := #[.tmp 30, .tmp 36], argTypes := #[22, 22] }, 22, "coding.go:96", #[⟨1, .data⟩, ⟨7, .data⟩, ⟨5, .chain⟩], none⟩) rfl (fun K hK => ?_) AllReadyH.nil
          obtain ⟨ti0, hi, hz0, hz1, hz2⟩ := info_parts info_clBk
          have hMa := hM.below ((Below.refl _ _).alloc (Nat.le_refl _) (.cells #[.int .i64 ((nmb 3 r).1 : Int), .string (txt (nmb 3 r).2).1] 48))
          have hXa := hX.below ((Below.refl _ _).alloc (Nat.le_refl _) (.cells #[.int .i64 ((nmb 3 r).1 : Int), .string (txt (nmb 3 r).2).1] 48))
          have hon := hMa.bk
          unfold BksW at hon
          rw [HM.out] at hon
          refine step_app _ rfl (.tmp 30) (.tmp 36) _ rfl (w0.heap.size + 4) 48 ti0 _ 2 24 Tryd.underlying22 hi hz0 hz1 hz2 rfl (by decide) _ m (s.bs.map bkC).flatten rfl hon _ 1 _ (bkC (rBk1 r).1) rfl (rd_newB _ (rBk1 r).1 rfl) (bkC_one _) (by unfold maxLen; omega) (by omega) hMa.size ?_
          intro v7 w7 ho' hg' hv'
          clear hi hz0 hz1 hz2 hv'
          have hM3 := hMa.book (rBk1 r).1 HM.out ho' hg'
          have hX3 := hXa.row hg' (fun e => by have := hon.lt _ e; omega)
          have BB := hMa.sb.grownR hg' (fun e => by have := hon.lt _ e; omega)
          have f3 := BB.free 3
          have k3 := (cell5 BB).2.2.2.1
          clear BB
          obtain ⟨A7, c7, rfl, -, -⟩ := own_shape ho'
          have hX4 := hX3.one (set1_grown w7 (w0.heap.size + 1) 3 (.slice A7 (m + 1) c7)) rfl
          clear hX3 hon ho' hg' hXa hM hX
          refine hK.out _ _ ?_ (fun hNew => ?_)
          · exact trivial
          clear hK K hHeld
          have hHeld := hNew
          clear hNew
          try simp only [Act.put, pz1, pz2, pz3]
          refine tk 9 ?_; try simp only [Act.put, pz1, pz2, pz3]
          refine wpAnyH_ready (rs := [10]) (by kernel_rfl) (by simp) ?_
          refine AllReadyH.cons (o := ⟨none, .store 22 (.tmp 38) (.tmp 37), 0, "coding.go:96", #[⟨9, .data⟩, ⟨8, .data⟩, ⟨8, .chain⟩, ⟨0, .phase⟩, ⟨1, .phase⟩, ⟨2, .phase⟩, ⟨3, .phase⟩, ⟨4, .phase⟩, ⟨5, .phase⟩, ⟨6, .phase⟩, ⟨7, .phase⟩, ⟨8, .phase⟩], none⟩) rfl (fun K hK => ?_) AllReadyH.nil
          go_simp
          refine hK.out _ _ ?_ (fun hNew => ?_)
          · exact trivial
          clear hK K hHeld
          have hHeld := hNew
          clear hNew
          try simp only [Act.put, pz1, pz2, pz3]
          refine wpAnyH_done (by kernel_rfl) ?_ _
          refine NoPanic.normal ?_
          clear hHeld
          go_wp2_with fail
          go_step3
          exact (show ∃ m, m < N ∧ JJ w0 (rAll b) 1 m _ _ from ⟨153600 + K + 2, by omega, Or.inl ⟨rfl, J1.mk (s := { s with bs := s.bs ++ [(rBk1 r).1] }) (k := K) ⟨hM3, hX4, HKZ, Lib.hid (by have := hlb.out; have := HM.out; refine ⟨?_, hlb.out.2⟩; simp; omega), Lib.hid hF.out, Nat.le_refl _⟩⟩⟩)
        · go_simp
          (first | (go_at_call 31; (have TK1 : Calls Tryd.prog 31 #[.pointer (some ⟨w0.heap.size + 3, 0, none⟩), .int .i64 3] _ _ := rnumb3 _ _ _ _ hM.rp (Nat.le_add_right _ _)); ((with_reducible refine TK1.mono ?_); rintro e' w1 ⟨rfl, hp, hg⟩; (try clear TK1); have hM := hM.call hg hp; have hX := hX.call hg; clear hp hg; (try clear k0 k1 k2 k3 k4 f0 f1 f2 f3 f4); obtain ⟨k0, k1, k2, k3, k4⟩ := cell5 hM.sb; have f0 := hM.sb.free 0; have f1 := hM.sb.free 1; have f2 := hM.sb.free 2; have f3 := hM.sb.free 3; have f4 := hM.sb.free 4)) | (go_at_call 32; ((with_reducible refine (rname_any _ _ _ _ hM.rp (Nat.le_add_right _ _)).mono ?_); rintro e' w2 ⟨rfl, hp, hg⟩; have hM := hM.call hg hp; have hX := hX.call hg; clear hp hg; (try clear k0 k1 k2 k3 k4 f0 f1 f2 f3 f4); obtain ⟨k0, k1, k2, k3, k4⟩ := cell5 hM.sb; have f0 := hM.sb.free 0; have f1 := hM.sb.free 1; have f2 := hM.sb.free 2; have f3 := hM.sb.free 3; have f4 := hM.sb.free 4; have ka := (cell5 (hM.sb.alloc_ (.cells #[.int .i64 ((nmb 3 r).1 : Int), .string (txt (nmb 3 r).2).1] 48))).2.2.2.1)))
          go_wp2_with fail
          refine hK.out _ _ ?_ (fun hNew => ?_)
          · exact trivial
          clear hK K hHeld
          have hHeld := hNew
          clear hNew
          try simp only [Act.put, pz1, pz2, pz3]
          refine wpAnyH_ready (rs := [1, 5]) (by kernel_rfl) (by simp) ?_
          refine (AllReadyH.cons (o := ⟨some 30, .load 22 (.tmp 29), 22, "coding.go:96", #[⟨0, .data⟩], none⟩) rfl (fun K hK => ?_) (AllReadyH.cons (o := ⟨some 34, .call { callee := .value (.func 32), args := #[.tmp 33], argTypes := #[57] }, 9, "coding.go:96", #[⟨4, .data⟩, ⟨3, .chain⟩], none⟩) rfl (fun K hK => ?_) AllReadyH.nil))
          · go_simp
            refine hK.out _ _ ?_ (fun hNew => ?_)
            · exact trivial
            clear hK K hHeld
            have hHeld := hNew
            clear hNew
            try simp only [Act.put, pz1, pz2, pz3]
            refine wpAnyH_ready (rs := [5]) (by kernel_rfl) (by simp) ?_
            refine AllReadyH.cons (o := ⟨some 34, .call { callee := .value (.func 32), args := #[.tmp 33], argTypes := #[57] }, 9, "coding.go:96", #[⟨4, .data⟩, ⟨3, .chain⟩], none⟩) rfl (fun K hK => ?_) AllReadyH.nil
            go_simp
            (go_at_call 32; ((with_reducible refine (rname_any _ _ _ _ hM.rp (Nat.le_add_right _ _)).mono ?_); rintro e' w2 ⟨rfl, hp, hg⟩; have hM := hM.call hg hp; have hX := hX.call hg; clear hp hg; (try clear k0 k1 k2 k3 k4 f0 f1 f2 f3 f4); obtain ⟨k0, k1, k2, k3, k4⟩ := cell5 hM.sb; have f0 := hM.sb.free 0; have f1 := hM.sb.free 1; have f2 := hM.sb.free 2; have f3 := hM.sb.free 3; have f4 := hM.sb.free 4; have ka := (cell5 (hM.sb.alloc_ (.cells #[.int .i64 ((nmb 3 r).1 : Int), .string (txt (nmb 3 r).2).1] 48))).2.2.2.1))
            go_wp2_with fail
            refine hK.out _ _ ?_ (fun hNew => ?_)
            · exact trivial
            clear hK K hHeld
            have hHeld := hNew
            clear hNew
            try simp only [Act.put, pz1, pz2, pz3]
            refine tk 6 ?_; try simp only [Act.put, pz1, pz2, pz3]
            refine wpAnyH_ready (rs := [7]) (by kernel_rfl) (by simp) ?_
            refine AllReadyH.cons (o := ⟨some 36, .buildSlice 22 1 #[(0, .tmp 35)], 22, "coding.go:96", #[⟨6, .data⟩], none⟩) rfl (fun K hK => ?_) AllReadyH.nil
            go_simp
            refine hK.out _ _ ?_ (fun hNew => ?_)
            · exact trivial
            clear hK K hHeld
            have hHeld := hNew
            clear hNew
            try simp only [Act.put, pz1, pz2, pz3]
            refine wpAnyH_ready (rs := [8]) (by kernel_rfl) (by simp) ?_
            refine AllReadyH.cons (o := ⟨some 37, .call { callee := .builtin .append, args := #[.tmp 30, .tmp 36], argTypes := #[22, 22] }, 22, "coding.go:96", #[⟨1, .data⟩, ⟨7, .data⟩, ⟨5, .chain⟩], none⟩) rfl (fun K hK => ?_) AllReadyH.nil
            obtain ⟨ti0, hi, hz0, hz1, hz2⟩ := info_parts info_clBk
            have hMa := hM.below ((Below.refl _ _).alloc (Nat.le_refl _) (.cells #[.int .i64 ((nmb 3 r).1 : Int), .string (txt (nmb 3 r).2).1] 48))
            have hXa := hX.below ((Below.refl _ _).alloc (Nat.le_refl _) (.cells #[.int .i64 ((nmb 3 r).1 : Int), .string (txt (nmb 3 r).2).1] 48))
            have hon := hMa.bk
            unfold BksW at hon
            rw [HM.out] at hon
            refine step_app _ rfl (.tmp 30) (.tmp 36) _ rfl (w0.heap.size + 4) 48 ti0 _ 2 24 Tryd.underlying22 hi hz0 hz1 hz2 rfl (by decide) _ m (s.bs.map bkC).flatten rfl hon _ 1 _ (bkC (rBk1 r).1) rfl (rd_newB _ (rBk1 r).1 rfl) (bkC_one _) (by unfold maxLen; omega) (by omega) hMa.size ?_
            intro v7 w7 ho' hg' hv'
            clear hi hz0 hz1 hz2 hv'
            have hM3 := hMa.book (rBk1 r).1 HM.out ho' hg'
            have hX3 := hXa.row hg' (fun e => by have := hon.lt _ e; omega)
            have BB := hMa.sb.grownR hg' (fun e => by have := hon.lt _ e; omega)
            have f3 := BB.free 3
            have k3 := (cell5 BB).2.2.2.1
            clear BB
            obtain ⟨A7, c7, rfl, -, -⟩ := own_shape ho'
            have hX4 := hX3.one (set1_grown w7 (w0.heap.size + 1) 3 (.slice A7 (m + 1) c7)) rfl
            clear hX3 hon ho' hg' hXa hM hX
            refine hK.out _ _ ?_ (fun hNew => ?_)
            · exact trivial
            clear hK K hHeld
            have hHeld := hNew
            clear hNew
            try simp only [Act.put, pz1, pz2, pz3]
            refine tk 9 ?_; try simp only [Act.put, pz1, pz2, pz3]
            refine wpAnyH_ready (rs := [10]) (by kernel_rfl) (by simp) ?_
            refine AllReadyH.cons (o := ⟨none, .store 22 (.tmp 38) (.tmp 37), 0, "coding.go:96", #[⟨9, .data⟩, ⟨8, .data⟩, ⟨8, .chain⟩, ⟨0, .phase⟩, ⟨1, .phase⟩, ⟨2, .phase⟩, ⟨3, .phase⟩, ⟨4, .phase⟩, ⟨5, .phase⟩, ⟨6, .phase⟩, ⟨7, .phase⟩, ⟨8, .phase⟩], none⟩) rfl (fun K hK => ?_) AllReadyH.nil
            go_simp
            refine hK.out _ _ ?_ (fun hNew => ?_)
            · exact trivial
            clear hK K hHeld
            have hHeld := hNew
            clear hNew
            try simp only [Act.put, pz1, pz2, pz3]
            refine wpAnyH_done (by kernel_rfl) ?_ _
            refine NoPanic.normal ?_
            clear hHeld
            go_wp2_with fail
            go_step3
            exact (show ∃ m, m < N ∧ JJ w0 (rAll b) 1 m _ _ from ⟨153600 + K + 2, by omega, Or.inl ⟨rfl, J1.mk (s := { s with bs := s.bs ++ [(rBk1 r).1] }) (k := K) ⟨hM3, hX4, HKZ, Lib.hid (by have := hlb.out; have := HM.out; refine ⟨?_, hlb.out.2⟩; simp; omega), Lib.hid hF.out, Nat.le_refl _⟩⟩⟩)
          · go_simp
            (first | (go_at_call 31; (have TK1 : Calls Tryd.prog 31 #[.pointer (some ⟨w0.heap.size + 3, 0, none⟩), .int .i64 3] _ _ := rnumb3 _ _ _ _ hM.rp (Nat.le_add_right _ _)); ((with_reducible refine TK1.mono ?_); rintro e' w1 ⟨rfl, hp, hg⟩; (try clear TK1); have hM := hM.call hg hp; have hX := hX.call hg; clear hp hg; (try clear k0 k1 k2 k3 k4 f0 f1 f2 f3 f4); obtain ⟨k0, k1, k2, k3, k4⟩ := cell5 hM.sb; have f0 := hM.sb.free 0; have f1 := hM.sb.free 1; have f2 := hM.sb.free 2; have f3 := hM.sb.free 3; have f4 := hM.sb.free 4)) | (go_at_call 32; ((with_reducible refine (rname_any _ _ _ _ hM.rp (Nat.le_add_right _ _)).mono ?_); rintro e' w2 ⟨rfl, hp, hg⟩; have hM := hM.call hg hp; have hX := hX.call hg; clear hp hg; (try clear k0 k1 k2 k3 k4 f0 f1 f2 f3 f4); obtain ⟨k0, k1, k2, k3, k4⟩ := cell5 hM.sb; have f0 := hM.sb.free 0; have f1 := hM.sb.free 1; have f2 := hM.sb.free 2; have f3 := hM.sb.free 3; have f4 := hM.sb.free 4; have ka := (cell5 (hM.sb.alloc_ (.cells #[.int .i64 ((nmb 3 r).1 : Int), .string (txt (nmb 3 r).2).1] 48))).2.2.2.1)))
            go_wp2_with fail
            refine hK.out _ _ ?_ (fun hNew => ?_)
            · exact trivial
            clear hK K hHeld
            have hHeld := hNew
            clear hNew
            try simp only [Act.put, pz1, pz2, pz3]
            refine tk 6 ?_; try simp only [Act.put, pz1, pz2, pz3]
            refine wpAnyH_ready (rs := [1, 7]) (by kernel_rfl) (by simp) ?_
            refine (AllReadyH.cons (o := ⟨some 30, .load 22 (.tmp 29), 22, "coding.go:96", #[⟨0, .data⟩], none⟩) rfl (fun K hK => ?_) (AllReadyH.cons (o := ⟨some 36, .buildSlice 22 1 #[(0, .tmp 35)], 22, "coding.go:96", #[⟨6, .data⟩], none⟩) rfl (fun K hK => ?_) AllReadyH.nil))
            · go_simp
              refine hK.out _ _ ?_ (fun hNew => ?_)
              · exact trivial
              clear hK K hHeld
              have hHeld := hNew
              clear hNew
              try simp only [Act.put, pz1, pz2, pz3]
              refine wpAnyH_ready (rs := [7]) (by kernel_rfl) (by simp) ?_
              refine AllReadyH.cons (o := ⟨some 36, .buildSlice 22 1 #[(0, .tmp 35)], 22, "coding.go:96", #[⟨6, .data⟩], none⟩) rfl (fun K hK => ?_) AllReadyH.nil
              go_simp
              refine hK.out _ _ ?_ (fun hNew => ?_)
              · exact trivial
              clear hK K hHeld
              have hHeld := hNew
              clear hNew
              try simp only [Act.put, pz1, pz2, pz3]
              refine wpAnyH_ready (rs := [8]) (by kernel_rfl) (by simp) ?_
              refine AllReadyH.cons (o := ⟨some 37, .call { callee := .builtin .append, args := #[.tmp 30, .tmp 36], argTypes := #[22, 22] }, 22, "coding.go:96", #[⟨1, .data⟩, ⟨7, .data⟩, ⟨5, .chain⟩], none⟩) rfl (fun K hK => ?_) AllReadyH.nil
              obtain ⟨ti0, hi, hz0, hz1, hz2⟩ := info_parts info_clBk
              have hMa := hM.below ((Below.refl _ _).alloc (Nat.le_refl _) (.cells #[.int .i64 ((nmb 3 r).1 : Int), .string (txt (nmb 3 r).2).1] 48))
              have hXa := hX.below ((Below.refl _ _).alloc (Nat.le_refl _) (.cells #[.int .i64 ((nmb 3 r).1 : Int), .string (txt (nmb 3 r).2).1] 48))
              have hon := hMa.bk
              unfold BksW at hon
              rw [HM.out] at hon
              refine step_app _ rfl (.tmp 30) (.tmp 36) _ rfl (w0.heap.size + 4) 48 ti0 _ 2 24 Tryd.underlying22 hi hz0 hz1 hz2 rfl (by decide) _ m (s.bs.map bkC).flatten rfl hon _ 1 _ (bkC (rBk1 r).1) rfl (rd_newB _ (rBk1 r).1 rfl) (bkC_one _) (by unfold maxLen; omega) (by omega) hMa.size ?_
              intro v7 w7 ho' hg' hv'
              clear hi hz0 hz1 hz2 hv'
              have hM3 := hMa.book (rBk1 r).1 HM.out ho' hg'
              have hX3 := hXa.row hg' (fun e => by have := hon.lt _ e; omega)
              have BB := hMa.sb.grownR hg' (fun e => by have := hon.lt _ e; omega)
              have f3 := BB.free 3
              have k3 := (cell5 BB).2.2.2.1
              clear BB
              obtain ⟨A7, c7, rfl, -, -⟩ := own_shape ho'
              have hX4 := hX3.one (set1_grown w7 (w0.heap.size + 1) 3 (.slice A7 (m + 1) c7)) rfl
              clear hX3 hon ho' hg' hXa hM hX
              refine hK.out _ _ ?_ (fun hNew => ?_)
              · exact trivial
              clear hK K hHeld
              have hHeld := hNew
              clear hNew
              try simp only [Act.put, pz1, pz2, pz3]
              refine tk 9 ?_; try simp only [Act.put, pz1, pz2, pz3]
              refine wpAnyH_ready (rs := [10]) (by kernel_rfl) (by simp) ?_
              refine AllReadyH.cons (o := ⟨none, .store 22 (.tmp 38) (.tmp 37), 0, "coding.go:96", #[⟨9, .data⟩, ⟨8, .data⟩, ⟨8, .chain⟩, ⟨0, .phase⟩, ⟨1, .phase⟩, ⟨2, .phase⟩, ⟨3, .phase⟩, ⟨4, .phase⟩, ⟨5, .phase⟩, ⟨6, .phase⟩, ⟨7, .phase⟩, ⟨8, .phase⟩], none⟩) rfl (fun K hK => ?_) AllReadyH.nil
              go_simp
              refine hK.out _ _ ?_ (fun hNew => ?_)
              · exact trivial
              clear hK K hHeld
              have hHeld := hNew
              clear hNew
              try simp only [Act.put, pz1, pz2, pz3]
              refine wpAnyH_done (by kernel_rfl) ?_ _
              refine NoPanic.normal ?_
              clear hHeld
              go_wp2_with fail
              go_step3
              exact (show ∃ m, m < N ∧ JJ w0 (rAll b) 1 m _ _ from ⟨153600 + K + 2, by omega, Or.inl ⟨rfl, J1.mk (s := { s with bs := s.bs ++ [(rBk1 r).1] }) (k := K) ⟨hM3, hX4, HKZ, Lib.hid (by have := hlb.out; have := HM.out; refine ⟨?_, hlb.out.2⟩; simp; omega), Lib.hid hF.out, Nat.le_refl _⟩⟩⟩)
            · go_simp
              refine hK.out _ _ ?_ (fun hNew => ?_)
              · exact trivial
              clear hK K hHeld
              have hHeld := hNew
              clear hNew
              try simp only [Act.put, pz1, pz2, pz3]
              refine wpAnyH_ready (rs := [1]) (by kernel_rfl) (by simp) ?_
              refine AllReadyH.cons (o := ⟨some 30, .load 22 (.tmp 29), 22, "coding.go:96", #[⟨0, .data⟩], none⟩) rfl (fun K hK => ?_) AllReadyH.nil
              go_simp
              refine hK.out _ _ ?_ (fun hNew => ?_)
              · exact trivial
              clear hK K hHeld
              have hHeld := hNew
              clear hNew
              try simp only [Act.put, pz1, pz2, pz3]
              refine wpAnyH_ready (rs := [8]) (by kernel_rfl) (by simp) ?_
              refine AllReadyH.cons (o := ⟨some 37, .call { callee := .builtin .append, args := #[.tmp 30, .tmp 36], argTypes := #[22, 22] }, 22, "coding.go:96", #[⟨1, .data⟩, ⟨7, .data⟩, ⟨5, .chain⟩], none⟩) rfl (fun K hK => ?_) AllReadyH.nil
              obtain ⟨ti0, hi, hz0, hz1, hz2⟩ := info_parts info_clBk
              have hMa := hM.below ((Below.refl _ _).alloc (Nat.le_refl _) (.cells #[.int .i64 ((nmb 3 r).1 : Int), .string (txt (nmb 3 r).2).1] 48))
              have hXa := hX.below ((Below.refl _ _).alloc (Nat.le_refl _) (.cells #[.int .i64 ((nmb 3 r).1 : Int), .string (txt (nmb 3 r).2).1] 48))
              have hon := hMa.bk
              unfold BksW at hon
              rw [HM.out] at hon
              refine step_app _ rfl (.tmp 30) (.tmp 36) _ rfl (w0.heap.size + 4) 48 ti0 _ 2 24 Tryd.underlying22 hi hz0 hz1 hz2 rfl (by decide) _ m (s.bs.map bkC).flatten rfl hon _ 1 _ (bkC (rBk1 r).1) rfl (rd_newB _ (rBk1 r).1 rfl) (bkC_one _) (by unfold maxLen; omega) (by omega) hMa.size ?_
              intro v7 w7 ho' hg' hv'
              clear hi hz0 hz1 hz2 hv'
              have hM3 := hMa.book (rBk1 r).1 HM.out ho' hg'
              have hX3 := hXa.row hg' (fun e => by have := hon.lt _ e; omega)
              have BB := hMa.sb.grownR hg' (fun e => by have := hon.lt _ e; omega)
              have f3 := BB.free 3
              have k3 := (cell5 BB).2.2.2.1
              clear BB
              obtain ⟨A7, c7, rfl, -, -⟩ := own_shape ho'
              have hX4 := hX3.one (set1_grown w7 (w0.heap.size + 1) 3 (.slice A7 (m + 1) c7)) rfl
              clear hX3 hon ho' hg' hXa hM hX
              refine hK.out _ _ ?_ (fun hNew => ?_)
              · exact trivial
              clear hK K hHeld
              have hHeld := hNew
              clear hNew
              try simp only [Act.put, pz1, pz2, pz3]
              refine tk 9 ?_; try simp only [Act.put, pz1, pz2, pz3]
              refine wpAnyH_ready (rs := [10]) (by kernel_rfl) (by simp) ?_
              refine AllReadyH.cons (o := ⟨none, .store 22 (.tmp 38) (.tmp 37), 0, "coding.go:96", #[⟨9, .data⟩, ⟨8, .data⟩, ⟨8, .chain⟩, ⟨0, .phase⟩, ⟨1, .phase⟩, ⟨2, .phase⟩, ⟨3, .phase⟩, ⟨4, .phase⟩, ⟨5, .phase⟩, ⟨6, .phase⟩, ⟨7, .phase⟩, ⟨8, .phase⟩], none⟩) rfl (fun K hK => ?_) AllReadyH.nil
              go_simp
              refine hK.out _ _ ?_ (fun hNew => ?_)
              · exact trivial
              clear hK K hHeld
              have hHeld := hNew
              clear hNew
              try simp only [Act.put, pz1, pz2, pz3]
              refine wpAnyH_done (by kernel_rfl) ?_ _
              refine NoPanic.normal ?_
              clear hHeld
              go_wp2_with fail
              go_step3
              exact (show ∃ m, m < N ∧ JJ w0 (rAll b) 1 m _ _ from ⟨153600 + K + 2, by omega, Or.inl ⟨rfl, J1.mk (s := { s with bs := s.bs ++ [(rBk1 r).1] }) (k := K) ⟨hM3, hX4, HKZ, Lib.hid (by have := hlb.out; have := HM.out; refine ⟨?_, hlb.out.2⟩; simp; omega), Lib.hid hF.out, Nat.le_refl _⟩⟩⟩)
    · obtain ⟨j, s, vb, vn, es, r, jz, u, rfl, hM, hX, hjz, hlb, hF, hn1⟩ := hJ
      refine ⟨_, (by simp only [findLabel, Nat.reduceBEq, if_true, if_false, Bool.false_eq_true]; rfl), ?_⟩
      by_cases hk0 : j = 0
      · subst hk0
        obtain rfl : jz = 0 := hjz.out
        go_wp2_with fail
        go_step3
        exact (show ∃ m, m < N ∧ JJ w0 (rAll b) 2 m _ _ from ⟨0, by omega, Or.inr (Or.inr (Or.inr (Or.inr ⟨rfl, J2.mk ⟨hM, Lib.hid hF.out⟩⟩)))⟩)
      · obtain ⟨L, rfl⟩ : ∃ L, j = L + 1 := ⟨j - 1, by omega⟩
        have l0 : ¬ jz = 0 := by have := hjz.out; omega
        have l1 : 1 ≤ jz := by have := hjz.out; omega
        have l2 : jz ≤ 255 := by have := hjz.out; have := hlb.out; omega
        have HKZ : Hid (jz - 1 = (L : Int)) := Lib.hid (by have := hjz.out; omega)
        clear hk0
        have BX := hX
        obtain ⟨x0, x1, x2, x3, x4, BX⟩ := BX
        obtain ⟨b0, b1, b2, b3, b4⟩ := cell5 BX
        have e0 := BX.free 0
        have e1 := BX.free 1
        have e2 := BX.free 2
        have e3 := BX.free 3
        have e4 := BX.free 4
        go_upto_region 13 with (first | (go_at_call 31; (have TK1 : Calls Tryd.prog 31 #[.pointer (some ⟨w0.heap.size + 3, 0, none⟩), .int .i64 3] _ _ := rnumb3 _ _ _ _ hM.rp (Nat.le_add_right _ _)); ((with_reducible refine TK1.mono ?_); rintro e' w1 ⟨rfl, hp, hg⟩; (try clear TK1); have hM := hM.call hg hp; have hX := hX.call hg; clear hp hg; (have BX := hX; obtain ⟨x0, x1, x2, x3, x4, BX⟩ := BX); (try clear b0 b1 b2 b3 b4 e0 e1 e2 e3 e4); obtain ⟨b0, b1, b2, b3, b4⟩ := cell5 BX; have e0 := BX.free 0; have e1 := BX.free 1; have e2 := BX.free 2; have e3 := BX.free 3; have e4 := BX.free 4)) | (go_at_call 32; ((with_reducible refine (rname_any _ _ _ _ hM.rp (Nat.le_add_right _ _)).mono ?_); rintro e' w3 ⟨rfl, hp, hg⟩; have hM := hM.call hg hp; have hX := hX.call hg; clear hp hg; (have BX := hX; obtain ⟨x0, x1, x2, x3, x4, BX⟩ := BX); (try clear b0 b1 b2 b3 b4 e0 e1 e2 e3 e4); obtain ⟨b0, b1, b2, b3, b4⟩ := cell5 BX; have e0 := BX.free 0; have e1 := BX.free 1; have e2 := BX.free 2; have e3 := BX.free 3; have e4 := BX.free 4)))
        obtain ⟨wz, hwz, hMz, hN⟩ := hM.fresh hX ((nmb 3 r).1 : Int) ((nmb 3 (nmb 3 r).2).1 : Int) (txt (nmb 3 (nmb 3 r).2).2).1
        change Code.wp _ _ _ _ (st5 _ (w0.heap.size + 2) 0 _ _ _ _ _)
        rw [← hwz]
        clear hwz hM hX BX
        (try clear b0 b1 b2 b3 b4 e0 e1 e2 e3 e4)
        replace hM := hMz
        clear hMz
        have hle : (nmb 1 (rH1 r).2).1 ≤ 255 := nmb1_lt hM.rp.b8
        go_wp2_with (go_at_call 31; (have TK1 : Calls Tryd.prog 31 #[.pointer (some ⟨w0.heap.size + 3, 0, none⟩), .int .i64 1] _ _ := rnumb1 _ _ _ _ hM.rp (Nat.le_add_right _ _)); ((with_reducible refine TK1.mono ?_); rintro e' w4 ⟨rfl, hp, hg⟩; (try clear TK1); have hM := hM.call hg hp; have hN := hN.call hg; clear hp hg))
        rename_i K hK
        go_step3
        show K _ _
        refine hK _ _ ?_
        exact HC.out 4 _ _ _ (show 600 * L + 300 + (nmb 1 (rH1 r).2).1 < N by omega) (Or.inr (Or.inr (Or.inl ⟨rfl, J4.mk (h := (rH1 r).1) ⟨hM, hN, Lib.hid ⟨HKZ.out, rfl⟩, Lib.hid ⟨by have := hlb.out; omega, by show (nmb 1 (rH1 r).2).1 + 0 ≤ 255; omega, rfl⟩, Lib.hid hF.out, Nat.le_refl _⟩⟩))) _ (by kernel_rfl)
    · obtain ⟨j, k, s, h, vt, vb, vn, es, r, jz, kz, u, rfl, hM, hN, hz, hlb, hF, hn1⟩ := hJ
      refine ⟨_, (by simp only [findLabel, Nat.reduceBEq, if_true, if_false, Bool.false_eq_true]; rfl), ?_⟩
      have j2 : jz ≤ 255 := by have := hz.out; have := hlb.out; omega
      have j3 : 0 ≤ jz := by have := hz.out; omega
      by_cases hk0 : k = 0
      · subst hk0
        obtain rfl : kz = 0 := hz.out.2
        have hle := nmb1_lt hM.rp.b8
        go_wp2_with (go_at_call 31; (have TK1 : Calls Tryd.prog 31 #[.pointer (some ⟨w0.heap.size + 3, 0, none⟩), .int .i64 1] _ _ := rnumb1 _ _ _ _ hM.rp (Nat.le_add_right _ _)); ((with_reducible refine TK1.mono ?_); rintro e' w1 ⟨rfl, hp, hg⟩; (try clear TK1); have hM := hM.call hg hp; have hN := hN.call hg; clear hp hg))
        go_step3
        exact (show ∃ m, m < N ∧ JJ w0 (rAll b) 3 m _ _ from ⟨600 * j + 2 + _, by omega, Or.inr (Or.inr (Or.inr (Or.inl ⟨rfl, J3.mk ⟨hM, hN, Lib.hid ⟨hz.out.1, rfl⟩, Lib.hid ⟨hlb.out.1, by have := hlb.out.2.2; rw [this]; simp; omega⟩, Lib.hid hF.out, Nat.le_refl _⟩⟩)))⟩)
      · obtain ⟨K, rfl⟩ : ∃ K, k = K + 1 := ⟨k - 1, by omega⟩
        have l0 : ¬ kz = 0 := by have := hz.out; omega
        have l1 : 1 ≤ kz := by have := hz.out; omega
        have l2 : kz ≤ 255 := by have := hz.out; have := hlb.out; omega
        have HKZ : Hid (jz = (j : Int) ∧ kz - 1 = (K : Int)) := Lib.hid (by have := hz.out; omega)
        obtain ⟨At, ct, rfl, -, -⟩ := own_shape hN.tg
        obtain ⟨m, hm⟩ : ∃ m, h.tg.length = m := ⟨_, rfl⟩
        rw [hm] at hN
        have hm2 : m ≤ 255 := by have := hlb.out; omega
        have HM := Lib.hid hm
        clear hm hk0
        go_upto_region 17 with fail
        replace hM := hM.below (drew_below (Below.refl _ wr))
        replace hN := hN.below (drew_below (Below.refl _ wr))
        obtain ⟨b0, b1, b2, b3, b4⟩ := cell5 hN.nb
        have e0 := hN.nb.free 0
        have e1 := hN.nb.free 1
        have e2 := hN.nb.free 2
        have e3 := hN.nb.free 3
        have e4 := hN.nb.free 4
        refine wp_region_noPanic ?_
        refine wp_region_held_drew (S := (fun _ => True)) (by kernel_rfl) ?_ (fun hHeld => ?_)
        · exact trivial
        refine tk 0 ?_; try simp only [Act.put, pz1, pz2, pz3]
        refine tk 2 ?_; try simp only [Act.put, pz1, pz2, pz3]
        refine wpAnyH_ready (rs := [1, 3]) (by kernel_rfl) (by simp) ?_
        refine (AllReadyH.cons (o := ⟨some 59, .load 49 (.tmp 58), 49, "coding.go:113", #[⟨0, .data⟩], none⟩) rfl (fun K hK => ?_) (AllReadyH.cons (o := ⟨some 61, .call { callee := .value (.func 32), args := #[.tmp 60], argTypes := #[57] }, 9, "coding.go:113", #[⟨2, .data⟩], none⟩) rfl (fun K hK => ?_) AllReadyH.nil))
        · go_simp
          refine hK.out _ _ ?_ (fun hNew => ?_)
          · exact trivial
          clear hK K hHeld
          have hHeld := hNew
          clear hNew
          try simp only [Act.put, pz1, pz2, pz3]
          refine wpAnyH_ready (rs := [3]) (by kernel_rfl) (by simp) ?_
          refine AllReadyH.cons (o := ⟨some 61, .call { callee := .value (.func 32), args := #[.tmp 60], argTypes := #[57] }, 9, "coding.go:113", #[⟨2, .data⟩], none⟩) rfl (fun K hK => ?_) AllReadyH.nil
          go_simp
          (go_at_call 32; ((with_reducible refine (rname_any _ _ _ _ hM.rp (Nat.le_add_right _ _)).mono ?_); rintro e' w2 ⟨rfl, hp, hg⟩; have hM := hM.call hg hp; have hN := hN.call hg; clear hp hg; (try clear b0 b1 b2 b3 b4 e0 e1 e2 e3 e4); obtain ⟨b0, b1, b2, b3, b4⟩ := cell5 hN.nb; have e0 := hN.nb.free 0; have e1 := hN.nb.free 1; have e2 := hN.nb.free 2; have e3 := hN.nb.free 3; have e4 := hN.nb.free 4; have ba := (cell5 (hN.nb.alloc_ (.cells #[.string (txt r).1] 9))).2.2.2.1))
          go_wp2_with fail
          refine hK.out _ _ ?_ (fun hNew => ?_)
          · exact trivial
          clear hK K hHeld
          have hHeld := hNew
          clear hNew
          try simp only [Act.put, pz1, pz2, pz3]
          refine wpAnyH_ready (rs := [4]) (by kernel_rfl) (by simp) ?_
          refine AllReadyH.cons (o := ⟨some 62, .buildSlice 49 1 #[(0, .tmp 61)], 49, "coding.go:113", #[⟨3, .data⟩], none⟩) rfl (fun K hK => ?_) AllReadyH.nil
          go_simp
          refine hK.out _ _ ?_ (fun hNew => ?_)
          · exact trivial
          clear hK K hHeld
          have hHeld := hNew
          clear hNew
          try simp only [Act.put, pz1, pz2, pz3]
          refine wpAnyH_ready (rs := [5]) (by kernel_rfl) (by simp) ?_
          refine AllReadyH.cons (o := ⟨some 63, .call { callee := .builtin .append, args := #[.tmp 59, .tmp 62], argTypes := #[49, 49] }, 49, "coding.go:113", #[⟨1, .data⟩, ⟨4, .data⟩, ⟨3, .chain⟩], none⟩) rfl (fun K hK => ?_) AllReadyH.nil
          obtain ⟨ti0, hi, hz0, hz1, hz2⟩ := info_parts info_clStr
          have hMa := hM.below ((Below.refl _ _).alloc (Nat.le_refl _) (.cells #[.string (txt r).1] 9))
          have hNa := hN.below ((Below.refl _ _).alloc (Nat.le_refl _) (.cells #[.string (txt r).1] 9))
          have hon := hNa.tg
          rw [HM.out] at hon
          refine step_app _ rfl (.tmp 59) (.tmp 62) _ rfl (w0.heap.size + 4) 9 ti0 _ 1 16 Tryd.underlying49 hi hz0 hz1 hz2 rfl (by decide) _ m (h.tg.map strV) rfl hon _ 1 _ [strV (txt r).1] rfl (rd_new1 _ _ _ rfl) (oneS _) (by unfold maxLen; omega) (by omega) hMa.size ?_
          intro v7 w7 ho' hg' hv'
          clear hi hz0 hz1 hz2
          have hQ := hMa.tag hNa (txt r).1 HM.out ho' hg' hv'
          have BB := hNa.nb.grownR hg' (fun e => by have := hon.lt _ e; omega)
          have e3 := BB.free 3
          have b3 := (cell5 BB).2.2.2.1
          clear BB
          obtain ⟨A7, c7, rfl, -, -⟩ := own_shape ho'
          obtain ⟨hM3, hN3⟩ := hQ
          clear hon ho' hg' hv' hM hN hNa
          refine hK.out _ _ ?_ (fun hNew => ?_)
          · exact trivial
          clear hK K hHeld
          have hHeld := hNew
          clear hNew
          try simp only [Act.put, pz1, pz2, pz3]
          refine tk 6 ?_; try simp only [Act.put, pz1, pz2, pz3]
          refine wpAnyH_ready (rs := [7]) (by kernel_rfl) (by simp) ?_
          refine AllReadyH.cons (o := ⟨none, .store 49 (.tmp 64) (.tmp 63), 0, "coding.go:113", #[⟨6, .data⟩, ⟨5, .data⟩, ⟨5, .chain⟩, ⟨0, .phase⟩, ⟨1, .phase⟩, ⟨2, .phase⟩, ⟨3, .phase⟩, ⟨4, .phase⟩, ⟨5, .phase⟩], none⟩) rfl (fun K hK => ?_) AllReadyH.nil
          go_simp
          refine hK.out _ _ ?_ (fun hNew => ?_)
          · exact trivial
          clear hK K hHeld
          have hHeld := hNew
          clear hNew
          try simp only [Act.put, pz1, pz2, pz3]
          refine wpAnyH_done (by kernel_rfl) ?_ _
          refine NoPanic.normal ?_
          clear hHeld
          go_wp2_with fail
          go_step3
          exact (show ∃ m, m < N ∧ JJ w0 (rAll b) 4 m _ _ from ⟨600 * j + 300 + K, by omega, Or.inr (Or.inr (Or.inl ⟨rfl, J4.mk (h := { h with tg := h.tg ++ [(txt r).1] }) (k := K) (j := j) ⟨hM3, hN3, HKZ, Lib.hid ⟨hlb.out.1, by have := hlb.out.2.1; have := HM.out; simp; omega, hlb.out.2.2⟩, Lib.hid hF.out, Nat.le_refl _⟩⟩))⟩)
        · go_simp
          (go_at_call 32; ((with_reducible refine (rname_any _ _ _ _ hM.rp (Nat.le_add_right _ _)).mono ?_); rintro e' w2 ⟨rfl, hp, hg⟩; have hM := hM.call hg hp; have hN := hN.call hg; clear hp hg; (try clear b0 b1 b2 b3 b4 e0 e1 e2 e3 e4); obtain ⟨b0, b1, b2, b3, b4⟩ := cell5 hN.nb; have e0 := hN.nb.free 0; have e1 := hN.nb.free 1; have e2 := hN.nb.free 2; have e3 := hN.nb.free 3; have e4 := hN.nb.free 4; have ba := (cell5 (hN.nb.alloc_ (.cells #[.string (txt r).1] 9))).2.2.2.1))
          go_wp2_with fail
          refine hK.out _ _ ?_ (fun hNew => ?_)
          · exact trivial
          clear hK K hHeld
          have hHeld := hNew
          clear hNew
          try simp only [Act.put, pz1, pz2, pz3]
          refine wpAnyH_ready (rs := [1, 4]) (by kernel_rfl) (by simp) ?_
          refine (AllReadyH.cons (o := ⟨some 59, .load 49 (.tmp 58), 49, "coding.go:113", #[⟨0, .data⟩], none⟩) rfl (fun K hK => ?_) (AllReadyH.cons (o := ⟨some 62, .buildSlice 49 1 #[(0, .tmp 61)], 49, "coding.go:113", #[⟨3, .data⟩], none⟩) rfl (fun K hK => ?_) AllReadyH.nil))
          · go_simp
            refine hK.out _ _ ?_ (fun hNew => ?_)
            · exact trivial
            clear hK K hHeld
            have hHeld := hNew
            clear hNew
            try simp only [Act.put, pz1, pz2, pz3]
            refine wpAnyH_ready (rs := [4]) (by kernel_rfl) (by simp) ?_
            refine AllReadyH.cons (o := ⟨some 62, .buildSlice 49 1 #[(0, .tmp 61)], 49, "coding.go:113", #[⟨3, .data⟩], none⟩) rfl (fun K hK => ?_) AllReadyH.nil
            go_simp
            refine hK.out _ _ ?_ (fun hNew => ?_)
            · exact trivial
            clear hK K hHeld
            have hHeld := hNew
            clear hNew
            try simp only [Act.put, pz1, pz2, pz3]
            refine wpAnyH_ready (rs := [5]) (by kernel_rfl) (by simp) ?_
            refine AllReadyH.cons (o := ⟨some 63, .call { callee := .builtin .append, args := #[.tmp 59, .tmp 62], argTypes := #[49, 49] }, 49, "coding.go:113", #[⟨1, .data⟩, ⟨4, .data⟩, ⟨3, .chain⟩], none⟩) rfl (fun K hK => ?_) AllReadyH.nil
            obtain ⟨ti0, hi, hz0, hz1, hz2⟩ := info_parts info_clStr
            have hMa := hM.below ((Below.refl _ _).alloc (Nat.le_refl _) (.cells #[.string (txt r).1] 9))
            have hNa := hN.below ((Below.refl _ _).alloc (Nat.le_refl _) (.cells #[.string (txt r).1] 9))
            have hon := hNa.tg
            rw [HM.out] at hon
            refine step_app _ rfl (.tmp 59) (.tmp 62) _ rfl (w0.heap.size + 4) 9 ti0 _ 1 16 Tryd.underlying49 hi hz0 hz1 hz2 rfl (by decide) _ m (h.tg.map strV) rfl hon _ 1 _ [strV (txt r).1] rfl (rd_new1 _ _ _ rfl) (oneS _) (by unfold maxLen; omega) (by omega) hMa.size ?_
            intro v7 w7 ho' hg' hv'
            clear hi hz0 hz1 hz2
            have hQ := hMa.tag hNa (txt r).1 HM.out ho' hg' hv'
            have BB := hNa.nb.grownR hg' (fun e => by have := hon.lt _ e; omega)
            have e3 := BB.free 3
            have b3 := (cell5 BB).2.2.2.1
            clear BB
            obtain ⟨A7, c7, rfl, -, -⟩ := own_shape ho'
            obtain ⟨hM3, hN3⟩ := hQ
            clear hon ho' hg' hv' hM hN hNa
            refine hK.out _ _ ?_ (fun hNew => ?_)
            · exact trivial
            clear hK K hHeld
            have hHeld := hNew
            clear hNew
            try simp only [Act.put, pz1, pz2, pz3]
            refine tk 6 ?_; try simp only [Act.put, pz1, pz2, pz3]
            refine wpAnyH_ready (rs := [7]) (by kernel_rfl) (by simp) ?_
            refine AllReadyH.cons (o := ⟨none, .store 49 (.tmp 64) (.tmp 63), 0, "coding.go:113", #[⟨6, .data⟩, ⟨5, .data⟩, ⟨5, .chain⟩, ⟨0, .phase⟩, ⟨1, .phase⟩, ⟨2, .phase⟩, ⟨3, .phase⟩, ⟨4, .phase⟩, ⟨5, .phase⟩], none⟩) rfl (fun K hK => ?_) AllReadyH.nil
            go_simp
            refine hK.out _ _ ?_ (fun hNew => ?_)
            · exact trivial
            clear hK K hHeld
            have hHeld := hNew
            clear hNew
            try simp only [Act.put, pz1, pz2, pz3]
            refine wpAnyH_done (by kernel_rfl) ?_ _
            refine NoPanic.normal ?_
            clear hHeld
            go_wp2_with fail
            go_step3
            exact (show ∃ m, m < N ∧ JJ w0 (rAll b) 4 m _ _ from ⟨600 * j + 300 + K, by omega, Or.inr (Or.inr (Or.inl ⟨rfl, J4.mk (h := { h with tg := h.tg ++ [(txt r).1] }) (k := K) (j := j) ⟨hM3, hN3, HKZ, Lib.hid ⟨hlb.out.1, by have := hlb.out.2.1; have := HM.out; simp; omega, hlb.out.2.2⟩, Lib.hid hF.out, Nat.le_refl _⟩⟩))⟩)
          · go_simp
            refine hK.out _ _ ?_ (fun hNew => ?_)
            · exact trivial
            clear hK K hHeld
            have hHeld := hNew
            clear hNew
            try simp only [Act.put, pz1, pz2, pz3]
            refine wpAnyH_ready (rs := [1]) (by kernel_rfl) (by simp) ?_
            refine AllReadyH.cons (o := ⟨some 59, .load 49 (.tmp 58), 49, "coding.go:113", #[⟨0, .data⟩], none⟩) rfl (fun K hK => ?_) AllReadyH.nil
            go_simp
            refine hK.out _ _ ?_ (fun hNew => ?_)
            · exact trivial
            clear hK K hHeld
            have hHeld := hNew
            clear hNew
            try simp only [Act.put, pz1, pz2, pz3]
            refine wpAnyH_ready (rs := [5]) (by kernel_rfl) (by simp) ?_
            refine AllReadyH.cons (o := ⟨some 63, .call { callee := .builtin .append, args := #[.tmp 59, .tmp 62], argTypes := #[49, 49] }, 49, "coding.go:113", #[⟨1, .data⟩, ⟨4, .data⟩, ⟨3, .chain⟩], none⟩) rfl (fun K hK => ?_) AllReadyH.nil
            obtain ⟨ti0, hi, hz0, hz1, hz2⟩ := info_parts info_clStr
            have hMa := hM.below ((Below.refl _ _).alloc (Nat.le_refl _) (.cells #[.string (txt r).1] 9))
            have hNa := hN.below ((Below.refl _ _).alloc (Nat.le_refl _) (.cells #[.string (txt r).1] 9))
            have hon := hNa.tg
            rw [HM.out] at hon
            refine step_app _ rfl (.tmp 59) (.tmp 62) _ rfl (w0.heap.size + 4) 9 ti0 _ 1 16 Tryd.underlying49 hi hz0 hz1 hz2 rfl (by decide) _ m (h.tg.map strV) rfl hon _ 1 _ [strV (txt r).1] rfl (rd_new1 _ _ _ rfl) (oneS _) (by unfold maxLen; omega) (by omega) hMa.size ?_
            intro v7 w7 ho' hg' hv'
            clear hi hz0 hz1 hz2
            have hQ := hMa.tag hNa (txt r).1 HM.out ho' hg' hv'
            have BB := hNa.nb.grownR hg' (fun e => by have := hon.lt _ e; omega)
            have e3 := BB.free 3
            have b3 := (cell5 BB).2.2.2.1
            clear BB
            obtain ⟨A7, c7, rfl, -, -⟩ := own_shape ho'
            obtain ⟨hM3, hN3⟩ := hQ
            clear hon ho' hg' hv' hM hN hNa
            refine hK.out _ _ ?_ (fun hNew => ?_)
            · exact trivial
            clear hK K hHeld
            have hHeld := hNew
            clear hNew
            try simp only [Act.put, pz1, pz2, pz3]
            refine tk 6 ?_; try simp only [Act.put, pz1, pz2, pz3]
            refine wpAnyH_ready (rs := [7]) (by kernel_rfl) (by simp) ?_
            refine AllReadyH.cons (o := ⟨none, .store 49 (.tmp 64) (.tmp 63), 0, "coding.go:113", #[⟨6, .data⟩, ⟨5, .data⟩, ⟨5, .chain⟩, ⟨0, .phase⟩, ⟨1, .phase⟩, ⟨2, .phase⟩, ⟨3, .phase⟩, ⟨4, .phase⟩, ⟨5, .phase⟩], none⟩) rfl (fun K hK => ?_) AllReadyH.nil
            go_simp
            refine hK.out _ _ ?_ (fun hNew => ?_)
            · exact trivial
            clear hK K hHeld
            have hHeld := hNew
            clear hNew
            try simp only [Act.put, pz1, pz2, pz3]
            refine wpAnyH_done (by kernel_rfl) ?_ _
            refine NoPanic.normal ?_
            clear hHeld
            go_wp2_with fail
            go_step3
            exact (show ∃ m, m < N ∧ JJ w0 (rAll b) 4 m _ _ from ⟨600 * j + 300 + K, by omega, Or.inr (Or.inr (Or.inl ⟨rfl, J4.mk (h := { h with tg := h.tg ++ [(txt r).1] }) (k := K) (j := j) ⟨hM3, hN3, HKZ, Lib.hid ⟨hlb.out.1, by have := hlb.out.2.1; have := HM.out; simp; omega, hlb.out.2.2⟩, Lib.hid hF.out, Nat.le_refl _⟩⟩))⟩)
    · obtain ⟨j, k, s, h, vt, vs, vb, vn, es, r, jz, kz, u, rfl, hM, hN, hz, hlb, hF, hn1⟩ := hJ
      refine ⟨_, (by simp only [findLabel, Nat.reduceBEq, if_true, if_false, Bool.false_eq_true]; rfl), ?_⟩
      have j2 : jz ≤ 255 := by have := hz.out; have := hlb.out; omega
      have j3 : 0 ≤ jz := by have := hz.out; omega
      by_cases hk0 : k = 0
      · subst hk0
        obtain rfl : kz = 0 := hz.out.2
        obtain ⟨An, cn, rfl, -, -⟩ := own_shape hM.on
        obtain ⟨At, ct, rfl, -, -⟩ := own_shape hN.tg
        obtain ⟨As, cs, rfl, -, -⟩ := own_shape hN.sh
        obtain ⟨m, hm⟩ : ∃ m, s.ts.length = m := ⟨_, rfl⟩
        obtain ⟨m1, hm1⟩ : ∃ m, h.tg.length = m := ⟨_, rfl⟩
        obtain ⟨m3, hm3⟩ : ∃ m, h.sh.length = m := ⟨_, rfl⟩
        rw [hm] at hM
        rw [hm1, hm3] at hN
        have hm2 : m ≤ 255 := by have := hlb.out; omega
        have HM := Lib.hid hm
        clear hm hm1 hm3
        obtain ⟨k0, k1, k2, k3, k4⟩ := cell5 hM.sb
        have f0 := hM.sb.free 0
        have f1 := hM.sb.free 1
        have f2 := hM.sb.free 2
        have f3 := hM.sb.free 3
        have f4 := hM.sb.free 4
        obtain ⟨b0, b1, b2, b3, b4⟩ := cell5 hN.nb
        have e0 := hN.nb.free 0
        have e1 := hN.nb.free 1
        have e2 := hN.nb.free 2
        have e3 := hN.nb.free 3
        have e4 := hN.nb.free 4
        have hMa := hM.below ((Below.refl _ _).alloc (Nat.le_refl _) (.cells #[.int .i64 h.id, .int .i64 h.bk, .string h.nm, .slice At m1 ct, .slice As m3 cs] 52))
        have hNa := hN.below ((Below.refl _ _).alloc (Nat.le_refl _) (.cells #[.int .i64 h.id, .int .i64 h.bk, .string h.nm, .slice At m1 ct, .slice As m3 cs] 52))
        have hon := hMa.on
        rw [HM.out] at hon
        go_wp2_with (at_builtin; obtain ⟨ti0, hi, hz0, hz1, hz2⟩ := info_parts info_clNt; refine wpList_app _ rfl (.tmp 70) (.tmp 72) _ rfl (w0.heap.size + 4) 52 ti0 _ 5 80 Tryd.underlying23 hi hz0 hz1 hz2 rfl (by decide) _ m es.flatten rfl hon _ 1 _ (ntC h (.slice At m1 ct) (.slice As m3 cs)) rfl (rd_newNt _ h _ _ rfl) (oneN _ _ _ _ _ _ _) (by unfold maxLen; omega) (by omega) hMa.size ?_; intro v7 w7 ho' hg' hv'; clear hi hz0 hz1 hz2 hv'; (have hQ := hMa.note hNa HM.out ho' hg'); (have BB := hMa.sb.grownR hg' (fun e => by have := hon.lt _ e; omega)); (have f4 := BB.free 4); (have k4 := (cell5 BB).2.2.2.2); clear BB; obtain ⟨A7, c7, rfl, -, -⟩ := own_shape ho'; obtain ⟨hM3, hX3⟩ := hQ; clear hon ho' hg' hM hN hNa)
        go_step3
        exact (show ∃ m, m < N ∧ JJ w0 (rAll b) 0 m _ _ from ⟨600 * j + 1, by omega, Or.inr (Or.inl ⟨rfl, J0.mk (s := { s with ts := s.ts ++ [h] }) (j := j) ⟨hM3, ⟨_, _, _, _, _, hX3⟩, Lib.hid hz.out.1, Lib.hid (by have := hlb.out.1; have := HM.out; simp; omega), Lib.hid hF.out, Nat.le_refl _⟩⟩)⟩)
      · obtain ⟨K, rfl⟩ : ∃ K, k = K + 1 := ⟨k - 1, by omega⟩
        have l0 : ¬ kz = 0 := by have := hz.out; omega
        have l1 : 1 ≤ kz := by have := hz.out; omega
        have l2 : kz ≤ 255 := by have := hz.out; have := hlb.out; omega
        have HKZ : Hid (jz = (j : Int) ∧ kz - 1 = (K : Int)) := Lib.hid (by have := hz.out; omega)
        obtain ⟨At, ct, rfl, -, -⟩ := own_shape hN.sh
        obtain ⟨m, hm⟩ : ∃ m, h.sh.length = m := ⟨_, rfl⟩
        rw [hm] at hN
        have hm2 : m ≤ 255 := by have := hlb.out; omega
        have HM := Lib.hid hm
        clear hm hk0
        go_upto_region 21 with fail
        replace hM := hM.below (drew_below (Below.refl _ wr))
        replace hN := hN.below (drew_below (Below.refl _ wr))
        obtain ⟨b0, b1, b2, b3, b4⟩ := cell5 hN.nb
        have e0 := hN.nb.free 0
        have e1 := hN.nb.free 1
        have e2 := hN.nb.free 2
        have e3 := hN.nb.free 3
        have e4 := hN.nb.free 4
        refine wp_region_noPanic ?_
        refine wp_region_held_drew (S := (fun _ => True)) (by kernel_rfl) ?_ (fun hHeld => ?_)
        · exact trivial
        refine tk 0 ?_; try simp only [Act.put, pz1, pz2, pz3]
        refine tk 2 ?_; try simp only [Act.put, pz1, pz2, pz3]
        refine wpAnyH_ready (rs := [1, 3]) (by kernel_rfl) (by simp) ?_
        refine (AllReadyH.cons (o := ⟨some 76, .load 50 (.tmp 75), 50, "coding.go:122", #[⟨0, .data⟩], none⟩) rfl (fun K hK => ?_) (AllReadyH.cons (o := ⟨some 78, .call { callee := .value (.func 31), args := #[.tmp 77, .const (.int .i64 2)], argTypes := #[57, 3] }, 3, "coding.go:122", #[⟨2, .data⟩], none⟩) rfl (fun K hK => ?_) AllReadyH.nil))
        · go_simp
          refine hK.out _ _ ?_ (fun hNew => ?_)
          · exact trivial
          clear hK K hHeld
          have hHeld := hNew
          clear hNew
          try simp only [Act.put, pz1, pz2, pz3]
          refine wpAnyH_ready (rs := [3]) (by kernel_rfl) (by simp) ?_
          refine AllReadyH.cons (o := ⟨some 78, .call { callee := .value (.func 31), args := #[.tmp 77, .const (.int .i64 2)], argTypes := #[57, 3] }, 3, "coding.go:122", #[⟨2, .data⟩], none⟩) rfl (fun K hK => ?_) AllReadyH.nil
          go_simp
          (go_at_call 31; (have TK1 : Calls Tryd.prog 31 #[.pointer (some ⟨w0.heap.size + 3, 0, none⟩), .int .i64 2] _ _ := rnumb2 _ _ _ _ hM.rp (Nat.le_add_right _ _)); ((with_reducible refine TK1.mono ?_); rintro e' w2 ⟨rfl, hp, hg⟩; (try clear TK1); have hM := hM.call hg hp; have hN := hN.call hg; clear hp hg; (try clear b0 b1 b2 b3 b4 e0 e1 e2 e3 e4); obtain ⟨b0, b1, b2, b3, b4⟩ := cell5 hN.nb; have e0 := hN.nb.free 0; have e1 := hN.nb.free 1; have e2 := hN.nb.free 2; have e3 := hN.nb.free 3; have e4 := hN.nb.free 4; have ba := (cell5 (hN.nb.alloc_ (.cells #[.int .i64 ((nmb 2 r).1 : Int)] 3))).2.2.2.2))
          go_wp2_with fail
          refine hK.out _ _ ?_ (fun hNew => ?_)
          · exact trivial
          clear hK K hHeld
          have hHeld := hNew
          clear hNew
          try simp only [Act.put, pz1, pz2, pz3]
          refine wpAnyH_ready (rs := [4]) (by kernel_rfl) (by simp) ?_
          refine AllReadyH.cons (o := ⟨some 79, .buildSlice 50 1 #[(0, .tmp 78)], 50, "coding.go:122", #[⟨3, .data⟩], none⟩) rfl (fun K hK => ?_) AllReadyH.nil
          go_simp
          refine hK.out _ _ ?_ (fun hNew => ?_)
          · exact trivial
          clear hK K hHeld
          have hHeld := hNew
          clear hNew
          try simp only [Act.put, pz1, pz2, pz3]
          refine wpAnyH_ready (rs := [5]) (by kernel_rfl) (by simp) ?_
          refine AllReadyH.cons (o := ⟨some 80, .call { callee := .builtin .append, args := #[.tmp 76, .tmp 79], argTypes := #[50, 50] }, 50, "coding.go:122", #[⟨1, .data⟩, ⟨4, .data⟩, ⟨3, .chain⟩], none⟩) rfl (fun K hK => ?_) AllReadyH.nil
          obtain ⟨ti0, hi, hz0, hz1, hz2⟩ := info_parts info_clInt
          have hMa := hM.below ((Below.refl _ _).alloc (Nat.le_refl _) (.cells #[.int .i64 ((nmb 2 r).1 : Int)] 3))
          have hNa := hN.below ((Below.refl _ _).alloc (Nat.le_refl _) (.cells #[.int .i64 ((nmb 2 r).1 : Int)] 3))
          have hon := hNa.sh
          rw [HM.out] at hon
          refine step_app _ rfl (.tmp 76) (.tmp 79) _ rfl (w0.heap.size + 4) 3 ti0 _ 1 8 Tryd.underlying50 hi hz0 hz1 hz2 rfl (by decide) _ m (h.sh.map (Value.int .i64)) rfl hon _ 1 _ [.int .i64 ((nmb 2 r).1 : Int)] rfl (rd_new1 _ _ _ rfl) (oneI _) (by unfold maxLen; omega) (by omega) hMa.size ?_
          intro v7 w7 ho' hg' hv'
          clear hi hz0 hz1 hz2
          have hQ := hMa.sheet hNa ((nmb 2 r).1 : Int) HM.out ho' hg' hv'
          have BB := hNa.nb.grownR hg' (fun e => by have := hon.lt _ e; omega)
          have e4 := BB.free 4
          have b4 := (cell5 BB).2.2.2.2
          clear BB
          obtain ⟨A7, c7, rfl, -, -⟩ := own_shape ho'
          obtain ⟨hM3, hN3⟩ := hQ
          clear hon ho' hg' hv' hM hN hNa
          refine hK.out _ _ ?_ (fun hNew => ?_)
          · exact trivial
          clear hK K hHeld
          have hHeld := hNew
          clear hNew
          try simp only [Act.put, pz1, pz2, pz3]
          refine tk 6 ?_; try simp only [Act.put, pz1, pz2, pz3]
          refine wpAnyH_ready (rs := [7]) (by kernel_rfl) (by simp) ?_
          refine AllReadyH.cons (o := ⟨none, .store 50 (.tmp 81) (.tmp 80), 0, "coding.go:122", #[⟨6, .data⟩, ⟨5, .data⟩, ⟨5, .chain⟩, ⟨0, .phase⟩, ⟨1, .phase⟩, ⟨2, .phase⟩, ⟨3, .phase⟩, ⟨4, .phase⟩, ⟨5, .phase⟩], none⟩) rfl (fun K hK => ?_) AllReadyH.nil
          go_simp
          refine hK.out _ _ ?_ (fun hNew => ?_)
          · exact trivial
          clear hK K hHeld
          have hHeld := hNew
          clear hNew
          try simp only [Act.put, pz1, pz2, pz3]
          refine wpAnyH_done (by kernel_rfl) ?_ _
          refine NoPanic.normal ?_
          clear hHeld
          go_wp2_with fail
          go_step3
          exact (show ∃ m, m < N ∧ JJ w0 (rAll b) 3 m _ _ from ⟨600 * j + 2 + K, by omega, Or.inr (Or.inr (Or.inr (Or.inl ⟨rfl, J3.mk (h := { h with sh := h.sh ++ [((nmb 2 r).1 : Int)] }) (k := K) (j := j) ⟨hM3, hN3, HKZ, Lib.hid ⟨hlb.out.1, by have := hlb.out.2; have := HM.out; simp; omega⟩, Lib.hid hF.out, Nat.le_refl _⟩⟩)))⟩)
        · go_simp
          (go_at_call 31; (have TK1 : Calls Tryd.prog 31 #[.pointer (some ⟨w0.heap.size + 3, 0, none⟩), .int .i64 2] _ _ := rnumb2 _ _ _ _ hM.rp (Nat.le_add_right _ _)); ((with_reducible refine TK1.mono ?_); rintro e' w2 ⟨rfl, hp, hg⟩; (try clear TK1); have hM := hM.call hg hp; have hN := hN.call hg; clear hp hg; (try clear b0 b1 b2 b3 b4 e0 e1 e2 e3 e4); obtain ⟨b0, b1, b2, b3, b4⟩ := cell5 hN.nb; have e0 := hN.nb.free 0; have e1 := hN.nb.free 1; have e2 := hN.nb.free 2; have e3 := hN.nb.free 3; have e4 := hN.nb.free 4; have ba := (cell5 (hN.nb.alloc_ (.cells #[.int .i64 ((nmb 2 r).1 : Int)] 3))).2.2.2.2))
          go_wp2_with fail
          refine hK.out _ _ ?_ (fun hNew => ?_)
          · exact trivial
          clear hK K hHeld
          have hHeld := hNew
          clear hNew
          try simp only [Act.put, pz1, pz2, pz3]
          refine wpAnyH_ready (rs := [1, 4]) (by kernel_rfl) (by simp) ?_
          refine (AllReadyH.cons (o := ⟨some 76, .load 50 (.tmp 75), 50, "coding.go:122", #[⟨0, .data⟩], none⟩) rfl (fun K hK => ?_) (AllReadyH.cons (o := ⟨some 79, .buildSlice 50 1 #[(0, .tmp 78)], 50, "coding.go:122", #[⟨3, .data⟩], none⟩) rfl (fun K hK => ?_) AllReadyH.nil))
          · go_simp
            refine hK.out _ _ ?_ (fun hNew => ?_)
            · exact trivial
            clear hK K hHeld
            have hHeld := hNew
            clear hNew
            try simp only [Act.put, pz1, pz2, pz3]
            refine wpAnyH_ready (rs := [4]) (by kernel_rfl) (by simp) ?_
            refine AllReadyH.cons (o := ⟨some 79, .buildSlice 50 1 #[(0, .tmp 78)], 50, "coding.go:122", #[⟨3, .data⟩], none⟩) rfl (fun K hK => ?_) AllReadyH.nil
            go_simp
            refine hK.out _ _ ?_ (fun hNew => ?_)
            · exact trivial
            clear hK K hHeld
            have hHeld := hNew
            clear hNew
            try simp only [Act.put, pz1, pz2, pz3]
            refine wpAnyH_ready (rs := [5]) (by kernel_rfl) (by simp) ?_
            refine AllReadyH.cons (o := ⟨some 80, .call { callee := .builtin .append, args := #[.tmp 76, .tmp 79], argTypes := #[50, 50] }, 50, "coding.go:122", #[⟨1, .data⟩, ⟨4, .data⟩, ⟨3, .chain⟩], none⟩) rfl (fun K hK => ?_) AllReadyH.nil
            obtain ⟨ti0, hi, hz0, hz1, hz2⟩ := info_parts info_clInt
            have hMa := hM.below ((Below.refl _ _).alloc (Nat.le_refl _) (.cells #[.int .i64 ((nmb 2 r).1 : Int)] 3))
            have hNa := hN.below ((Below.refl _ _).alloc (Nat.le_refl _) (.cells #[.int .i64 ((nmb 2 r).1 : Int)] 3))
            have hon := hNa.sh
            rw [HM.out] at hon
            refine step_app _ rfl (.tmp 76) (.tmp 79) _ rfl (w0.heap.size + 4) 3 ti0 _ 1 8 Tryd.underlying50 hi hz0 hz1 hz2 rfl (by decide) _ m (h.sh.map (Value.int .i64)) rfl hon _ 1 _ [.int .i64 ((nmb 2 r).1 : Int)] rfl (rd_new1 _ _ _ rfl) (oneI _) (by unfold maxLen; omega) (by omega) hMa.size ?_
            intro v7 w7 ho' hg' hv'
            clear hi hz0 hz1 hz2
            have hQ := hMa.sheet hNa ((nmb 2 r).1 : Int) HM.out ho' hg' hv'
            have BB := hNa.nb.grownR hg' (fun e => by have := hon.lt _ e; omega)
            have e4 := BB.free 4
            have b4 := (cell5 BB).2.2.2.2
            clear BB
            obtain ⟨A7, c7, rfl, -, -⟩ := own_shape ho'
            obtain ⟨hM3, hN3⟩ := hQ
            clear hon ho' hg' hv' hM hN hNa
            refine hK.out _ _ ?_ (fun hNew => ?_)
            · exact trivial
            clear hK K hHeld
            have hHeld := hNew
            clear hNew
            try simp only [Act.put, pz1, pz2, pz3]
            refine tk 6 ?_; try simp only [Act.put, pz1, pz2, pz3]
            refine wpAnyH_ready (rs := [7]) (by kernel_rfl) (by simp) ?_
            refine AllReadyH.cons (o := ⟨none, .store 50 (.tmp 81) (.tmp 80), 0, "coding.go:122", #[⟨6, .data⟩, ⟨5, .data⟩, ⟨5, .chain⟩, ⟨0, .phase⟩, ⟨1, .phase⟩, ⟨2, .phase⟩, ⟨3, .phase⟩, ⟨4, .phase⟩, ⟨5, .phase⟩], none⟩) rfl (fun K hK => ?_) AllReadyH.nil
            go_simp
            refine hK.out _ _ ?_ (fun hNew => ?_)
            · exact trivial
            clear hK K hHeld
            have hHeld := hNew
            clear hNew
            try simp only [Act.put, pz1, pz2, pz3]
            refine wpAnyH_done (by kernel_rfl) ?_ _
            refine NoPanic.normal ?_
            clear hHeld
            go_wp2_with fail
            go_step3
            exact (show ∃ m, m < N ∧ JJ w0 (rAll b) 3 m _ _ from ⟨600 * j + 2 + K, by omega, Or.inr (Or.inr (Or.inr (Or.inl ⟨rfl, J3.mk (h := { h with sh := h.sh ++ [((nmb 2 r).1 : Int)] }) (k := K) (j := j) ⟨hM3, hN3, HKZ, Lib.hid ⟨hlb.out.1, by have := hlb.out.2; have := HM.out; simp; omega⟩, Lib.hid hF.out, Nat.le_refl _⟩⟩)))⟩)
          · go_simp
            refine hK.out _ _ ?_ (fun hNew => ?_)
            · exact trivial
            clear hK K hHeld
            have hHeld := hNew
            clear hNew
            try simp only [Act.put, pz1, pz2, pz3]
            refine wpAnyH_ready (rs := [1]) (by kernel_rfl) (by simp) ?_
            refine AllReadyH.cons (o := ⟨some 76, .load 50 (.tmp 75), 50, "coding.go:122", #[⟨0, .data⟩], none⟩) rfl (fun K hK => ?_) AllReadyH.nil
            go_simp
            refine hK.out _ _ ?_ (fun hNew => ?_)
            · exact trivial
            clear hK K hHeld
            have hHeld := hNew
            clear hNew
            try simp only [Act.put, pz1, pz2, pz3]
            refine wpAnyH_ready (rs := [5]) (by kernel_rfl) (by simp) ?_
            refine AllReadyH.cons (o := ⟨some 80, .call { callee := .builtin .append, args := #[.tmp 76, .tmp 79], argTypes := #[50, 50] }, 50, "coding.go:122", #[⟨1, .data⟩, ⟨4, .data⟩, ⟨3, .chain⟩], none⟩) rfl (fun K hK => ?_) AllReadyH.nil
            obtain ⟨ti0, hi, hz0, hz1, hz2⟩ := info_parts info_clInt
            have hMa := hM.below ((Below.refl _ _).alloc (Nat.le_refl _) (.cells #[.int .i64 ((nmb 2 r).1 : Int)] 3))
            have hNa := hN.below ((Below.refl _ _).alloc (Nat.le_refl _) (.cells #[.int .i64 ((nmb 2 r).1 : Int)] 3))
            have hon := hNa.sh
            rw [HM.out] at hon
            refine step_app _ rfl (.tmp 76) (.tmp 79) _ rfl (w0.heap.size + 4) 3 ti0 _ 1 8 Tryd.underlying50 hi hz0 hz1 hz2 rfl (by decide) _ m (h.sh.map (Value.int .i64)) rfl hon _ 1 _ [.int .i64 ((nmb 2 r).1 : Int)] rfl (rd_new1 _ _ _ rfl) (oneI _) (by unfold maxLen; omega) (by omega) hMa.size ?_
            intro v7 w7 ho' hg' hv'
            clear hi hz0 hz1 hz2
            have hQ := hMa.sheet hNa ((nmb 2 r).1 : Int) HM.out ho' hg' hv'
            have BB := hNa.nb.grownR hg' (fun e => by have := hon.lt _ e; omega)
            have e4 := BB.free 4
            have b4 := (cell5 BB).2.2.2.2
            clear BB
            obtain ⟨A7, c7, rfl, -, -⟩ := own_shape ho'
            obtain ⟨hM3, hN3⟩ := hQ
            clear hon ho' hg' hv' hM hN hNa
            refine hK.out _ _ ?_ (fun hNew => ?_)
            · exact trivial
            clear hK K hHeld
            have hHeld := hNew
            clear hNew
            try simp only [Act.put, pz1, pz2, pz3]
            refine tk 6 ?_; try simp only [Act.put, pz1, pz2, pz3]
            refine wpAnyH_ready (rs := [7]) (by kernel_rfl) (by simp) ?_
            refine AllReadyH.cons (o := ⟨none, .store 50 (.tmp 81) (.tmp 80), 0, "coding.go:122", #[⟨6, .data⟩, ⟨5, .data⟩, ⟨5, .chain⟩, ⟨0, .phase⟩, ⟨1, .phase⟩, ⟨2, .phase⟩, ⟨3, .phase⟩, ⟨4, .phase⟩, ⟨5, .phase⟩], none⟩) rfl (fun K hK => ?_) AllReadyH.nil
            go_simp
            refine hK.out _ _ ?_ (fun hNew => ?_)
            · exact trivial
            clear hK K hHeld
            have hHeld := hNew
            clear hNew
            try simp only [Act.put, pz1, pz2, pz3]
            refine wpAnyH_done (by kernel_rfl) ?_ _
            refine NoPanic.normal ?_
            clear hHeld
            go_wp2_with fail
            go_step3
            exact (show ∃ m, m < N ∧ JJ w0 (rAll b) 3 m _ _ from ⟨600 * j + 2 + K, by omega, Or.inr (Or.inr (Or.inr (Or.inl ⟨rfl, J3.mk (h := { h with sh := h.sh ++ [((nmb 2 r).1 : Int)] }) (k := K) (j := j) ⟨hM3, hN3, HKZ, Lib.hid ⟨hlb.out.1, by have := hlb.out.2; have := HM.out; simp; omega⟩, Lib.hid hF.out, Nat.le_refl _⟩⟩)))⟩)
    · obtain ⟨s, vb, vn, es, r, u, rfl, hM, hF⟩ := hJ
      refine ⟨_, (by simp only [findLabel, Nat.reduceBEq, if_true, if_false, Bool.false_eq_true]; rfl), ?_⟩
      obtain ⟨Ab, cb, rfl, -, -⟩ := own_shape hM.bk
      obtain ⟨An, cn, rfl, -, -⟩ := own_shape hM.on
      obtain ⟨l1, hl1⟩ : ∃ m, s.bs.length = m := ⟨_, rfl⟩
      obtain ⟨l2, hl2⟩ : ∃ m, s.ts.length = m := ⟨_, rfl⟩
      rw [hl1, hl2] at hM
      clear hl1 hl2
      obtain ⟨bs, sh⟩ := r
      obtain ⟨k0, k1, k2, k3, k4⟩ := cell5 hM.sb
      have f0 := hM.sb.free 0
      have f1 := hM.sb.free 1
      have f2 := hM.sb.free 2
      have f3 := hM.sb.free 3
      have f4 := hM.sb.free 4
      obtain ⟨z0, z1, z2, z3, z4⟩ := cell5 hM.zb
      have y0 := hM.zb.free 0
      have y1 := hM.zb.free 1
      have y2 := hM.zb.free 2
      have y3 := hM.zb.free 3
      have y4 := hM.zb.free 4
      obtain ⟨A9, c9, BR, -⟩ := hM.rp.ex
      obtain ⟨L, hL⟩ : ∃ m, bs.length = m := ⟨_, rfl⟩
      change Blk wr (w0.heap.size + 3) 59 #[.slice A9 bs.length c9, .bool sh] at BR
      rw [hL] at BR
      have x0 := BR.cell_ 0
      have x1 := BR.cell_ 1
      simp at x0 x1
      have HL := Lib.hid hL
      have hT1 : Tabs wr := Tabs.next HT.out hM.hB
      clear hL BR
      cases sh
      · by_cases hL0 : L = 0
        · subst hL0
          obtain rfl : bs = [] := List.length_eq_zero_iff.1 HL.out
          rcases (by cases hq : mayS s <;> simp : mayS s = true ∨ mayS s = false) with hm | hm
          · have HMY := Lib.hid hm
            clear hm
            go_wp2_with (go_at_call 23; ((with_reducible refine (smay_any s _ _ hM.toW.toR hT1 _ HMY.out).mono ?_); rintro e' w5 ⟨rfl, bx⟩; (have hM := hM.below bx); clear bx; (try clear k0 k1 k2 k3 k4 f0 f1 f2 f3 f4); (try clear z0 z1 z2 z3 z4 y0 y1 y2 y3 y4); obtain ⟨k0, k1, k2, k3, k4⟩ := cell5 hM.sb; have f0 := hM.sb.free 0; have f1 := hM.sb.free 1; have f2 := hM.sb.free 2; have f3 := hM.sb.free 3; have f4 := hM.sb.free 4; obtain ⟨z0, z1, z2, z3, z4⟩ := cell5 hM.zb; have y0 := hM.zb.free 0; have y1 := hM.zb.free 1; have y2 := hM.zb.free 2; have y3 := hM.zb.free 3; have y4 := hM.zb.free 4))
            refine jumpsQ_ret ?_
            have B2u := hM.zb.st5_ (.int .i64 s.nb) (.int .i64 s.nn) (.int .i64 s.ns) (.slice Ab l1 cb) (.slice An l2 cn)
            have hg2 := st5_grown w5 w0.heap.size 0 (.int .i64 s.nb) (.int .i64 s.nn) (.int .i64 s.ns) (.slice Ab l1 cb) (.slice An l2 cn)
            have hb2 := below_grown hM.hB hg2 (Nat.le_refl _) hM.hB.size
            have hbk := hM.bk.far hg2 (by omega)
            have hnt := NtsW.far ⟨es, hM.el, hM.on, hM.nt⟩ hg2 (by omega)
            change bodyPost _ _ _ _ _ (st5 w5 w0.heap.size 0 (.int .i64 s.nb) (.int .i64 s.nn) (.int .i64 s.ns) (.slice Ab l1 cb) (.slice An l2 cn))
            generalize st5 w5 w0.heap.size 0 (.int .i64 s.nb) (.int .i64 s.nn) (.int .i64 s.ns) (.slice Ab l1 cb) (.slice An l2 cn) = Wd at B2u hb2 hbk hnt ⊢
            apply bodyPost_ret (v := .tuple #[.agg #[.int .i64 s.nb, .int .i64 s.nn, .int .i64 s.ns, .slice Ab l1 cb, .slice An l2 cn], .int .i64 0])
            · exact results_cell1 Tryd.results18 _ Wd w0.heap.size 25 _ (0, 0) _ rfl B2u Tryd.underlying25 rfl (by kernel_rfl)
            · rfl
            · have HOK : okR b = true := by
                unfold okR
                rw [← hF.out]
                simp [HMY.out]
              exact ⟨⟨_, by rw [HOK]; rfl, by rw [HOK]; show ShW _ _ _ (rAll b).1; rw [← hF.out]; exact (ShW.make hbk hnt).base_ (Nat.le_add_right _ 4)⟩, hb2⟩
          · have HMY := Lib.hid hm
            clear hm
            go_wp2_with (go_at_call 23; ((with_reducible refine (smay_any s _ _ hM.toW.toR hT1 _ HMY.out).mono ?_); rintro e' w5 ⟨rfl, bx⟩; (have hM := hM.below bx); clear bx; (try clear k0 k1 k2 k3 k4 f0 f1 f2 f3 f4); (try clear z0 z1 z2 z3 z4 y0 y1 y2 y3 y4); obtain ⟨k0, k1, k2, k3, k4⟩ := cell5 hM.sb; have f0 := hM.sb.free 0; have f1 := hM.sb.free 1; have f2 := hM.sb.free 2; have f3 := hM.sb.free 3; have f4 := hM.sb.free 4; obtain ⟨z0, z1, z2, z3, z4⟩ := cell5 hM.zb; have y0 := hM.zb.free 0; have y1 := hM.zb.free 1; have y2 := hM.zb.free 2; have y3 := hM.zb.free 3; have y4 := hM.zb.free 4))
            refine jumpsQ_ret ?_
            have B2u := hM.zb.st5_ (.int .i64 0) (.int .i64 0) (.int .i64 0) (.slice none 0 0) (.slice none 0 0)
            have hb2 := below_grown hM.hB (st5_grown _ w0.heap.size 0 (.int .i64 0) (.int .i64 0) (.int .i64 0) (.slice none 0 0) (.slice none 0 0)) (Nat.le_refl _) hM.hB.size
            change bodyPost _ _ _ _ _ (st5 w5 w0.heap.size 0 (.int .i64 0) (.int .i64 0) (.int .i64 0) (.slice none 0 0) (.slice none 0 0))
            generalize st5 w5 w0.heap.size 0 (.int .i64 0) (.int .i64 0) (.int .i64 0) (.slice none 0 0) (.slice none 0 0) = Wd at B2u hb2 ⊢
            apply bodyPost_ret (v := .tuple #[.agg #[.int .i64 0, .int .i64 0, .int .i64 0, .slice none 0 0, .slice none 0 0], .int .i64 5])
            · exact results_cell1 Tryd.results18 _ Wd w0.heap.size 25 #[.int .i64 0, .int .i64 0, .int .i64 0, .slice none 0 0, .slice none 0 0] (0, 0) _ rfl B2u Tryd.underlying25 rfl (by kernel_rfl)
            · rfl
            · have HOK : okR b = false := by
                unfold okR
                rw [← hF.out]
                simp [HMY.out]
              exact ⟨⟨_, by rw [HOK]; rfl, by rw [HOK]; exact ShW.make (s := ⟨0, 0, 0, [], []⟩) (World.ownsRow_nil _ _ _ _) ⟨[], rfl, World.ownsRow_nil _ _ _ _, fun k n e a c => by simp at c⟩⟩, hb2⟩
        · have i0 : ¬ (L : Int) = 0 := by omega
          go_wp2_with fail
          refine jumpsQ_ret ?_
          have B2u := hM.zb.st5_ (.int .i64 0) (.int .i64 0) (.int .i64 0) (.slice none 0 0) (.slice none 0 0)
          have hb2 := below_grown hM.hB (st5_grown _ w0.heap.size 0 (.int .i64 0) (.int .i64 0) (.int .i64 0) (.slice none 0 0) (.slice none 0 0)) (Nat.le_refl _) hM.hB.size
          change bodyPost _ _ _ _ _ (st5 wr w0.heap.size 0 (.int .i64 0) (.int .i64 0) (.int .i64 0) (.slice none 0 0) (.slice none 0 0))
          generalize st5 wr w0.heap.size 0 (.int .i64 0) (.int .i64 0) (.int .i64 0) (.slice none 0 0) (.slice none 0 0) = Wd at B2u hb2 ⊢
          apply bodyPost_ret (v := .tuple #[.agg #[.int .i64 0, .int .i64 0, .int .i64 0, .slice none 0 0, .slice none 0 0], .int .i64 5])
          · exact results_cell1 Tryd.results18 _ Wd w0.heap.size 25 #[.int .i64 0, .int .i64 0, .int .i64 0, .slice none 0 0, .slice none 0 0] (0, 0) _ rfl B2u Tryd.underlying25 rfl (by kernel_rfl)
          · rfl
          · have HOK : okR b = false := by
              unfold okR
              rw [← hF.out]
              have h := HL.out; cases bs with | nil => exact absurd h.symm hL0 | cons x l => rfl
            exact ⟨⟨_, by rw [HOK]; rfl, by rw [HOK]; exact ShW.make (s := ⟨0, 0, 0, [], []⟩) (World.ownsRow_nil _ _ _ _) ⟨[], rfl, World.ownsRow_nil _ _ _ _, fun k n e a c => by simp at c⟩⟩, hb2⟩
      · go_wp2_with fail
        refine jumpsQ_ret ?_
        have B2u := hM.zb.st5_ (.int .i64 0) (.int .i64 0) (.int .i64 0) (.slice none 0 0) (.slice none 0 0)
        have hb2 := below_grown hM.hB (st5_grown _ w0.heap.size 0 (.int .i64 0) (.int .i64 0) (.int .i64 0) (.slice none 0 0) (.slice none 0 0)) (Nat.le_refl _) hM.hB.size
        change bodyPost _ _ _ _ _ (st5 wr w0.heap.size 0 (.int .i64 0) (.int .i64 0) (.int .i64 0) (.slice none 0 0) (.slice none 0 0))
        generalize st5 wr w0.heap.size 0 (.int .i64 0) (.int .i64 0) (.int .i64 0) (.slice none 0 0) (.slice none 0 0) = Wd at B2u hb2 ⊢
        apply bodyPost_ret (v := .tuple #[.agg #[.int .i64 0, .int .i64 0, .int .i64 0, .slice none 0 0, .slice none 0 0], .int .i64 5])
        · exact results_cell1 Tryd.results18 _ Wd w0.heap.size 25 #[.int .i64 0, .int .i64 0, .int .i64 0, .slice none 0 0, .slice none 0 0] (0, 0) _ rfl B2u Tryd.underlying25 rfl (by kernel_rfl)
        · rfl
        · have HOK : okR b = false := by
            unfold okR
            rw [← hF.out]
            rfl
          exact ⟨⟨_, by rw [HOK]; rfl, by rw [HOK]; exact ShW.make (s := ⟨0, 0, 0, [], []⟩) (World.ownsRow_nil _ _ _ _) ⟨[], rfl, World.ownsRow_nil _ _ _ _, fun k n e a c => by simp at c⟩⟩, hb2⟩
  · intro hcut
    have HC := Lib.hid hcut
    clear hcut
    obtain ⟨wz, hwz, hMz, hX, hsz⟩ := RdM.start w0 b n A c HH.out.1 HS.out HH.out.2 hc hcm n1 HA.out
    have HSZ := Lib.hid hsz
    clear hsz
    go_upto_region 5 with fail
    rw [← hwz]
    rw [show w0.heap.size + 1 + 1 + 1 = w0.heap.size + 3 from rfl, show w0.heap.size + 1 + 1 = w0.heap.size + 2 from rfl]
    clear hwz
    have hM := hMz
    clear hMz
    obtain ⟨k0, k1, k2, k3, k4⟩ := cell5 hM.sb
    have f0 := hM.sb.free 0
    have f1 := hM.sb.free 1
    have f2 := hM.sb.free 2
    have f3 := hM.sb.free 3
    have f4 := hM.sb.free 4
    go_upto_region 6 with (go_at_call 31; (have TK1 : Calls Tryd.prog 31 #[.pointer (some ⟨w0.heap.size + 3, 0, none⟩), .int .i64 3] _ _ := rnumb3 _ _ _ _ hM.rp (Nat.le_add_right _ _)); ((with_reducible refine TK1.mono ?_); rintro e' w1 ⟨rfl, hp, hg⟩; (try clear TK1); have hM := hM.call hg hp; have hX := hX.call hg; clear hp hg; (try clear k0 k1 k2 k3 k4 f0 f1 f2 f3 f4); obtain ⟨k0, k1, k2, k3, k4⟩ := cell5 hM.sb; have f0 := hM.sb.free 0; have f1 := hM.sb.free 1; have f2 := hM.sb.free 2; have f3 := hM.sb.free 3; have f4 := hM.sb.free 4))
    obtain ⟨wy, hwy, hMy, hgy⟩ := hM.three ((nmb 3 (b, false)).1 : Int) ((nmb 3 (nmb 3 (b, false)).2).1 : Int) ((nmb 3 (nmb 3 (nmb 3 (b, false)).2).2).1 : Int)
    rw [← hwy]
    have hX := hX.one hgy rfl
    clear hwy hM hgy
    (try clear k0 k1 k2 k3 k4 f0 f1 f2 f3 f4)
    have hM := hMy
    clear hMy
    have hle := nmb1_lt hM.rp.b8
    go_wp2_with (go_at_call 31; (have TK1 : Calls Tryd.prog 31 #[.pointer (some ⟨w0.heap.size + 3, 0, none⟩), .int .i64 1] _ _ := rnumb1 _ _ _ _ hM.rp (Nat.le_add_right _ _)); ((with_reducible refine TK1.mono ?_); rintro e' w4 ⟨rfl, hp, hg⟩; (try clear TK1); have hM := hM.call hg hp; have hX := hX.call hg; clear hp hg))
    rename_i K hK
    go_step3
    show K _ _
    refine hK _ _ ?_
    exact HC.out 1 _ _ _ (Or.inl ⟨rfl, J1.mk ⟨hM, hX, Lib.hid rfl, Lib.hid ⟨by show _ + 0 ≤ 255; omega, rfl⟩, Lib.hid (conB_all b).symm, Nat.le_refl _⟩⟩) _ (by kernel_rfl)
end Go.Proofs.YtllnfociddodcaaDoor
namespace Go.Proofs.YtllnfociddodcaaDoor
open Go.ChangeShapes Go.WideShapes Go.ChangeAt Go.RowKit
attribute [local go_sem ↓] Go.wp_at_zero Go.wp_at_succ
theorem grown_of {w w' : World} (row : Option Nat) (h : Below w.heap.size w w') : w.grownBy w' row := ⟨h.os, h.tape, h.output, h.size, fun k hk _ => h.block k hk⟩
theorem gtrK {w w1 w2 : World} {row : Option Nat} (h : w.grownBy w1 row) (h2 : w1.grownBy w2 row) : w.grownBy w2 row := ⟨by rw [h2.os, h.os], by rw [h2.tape, h.tape], by rw [h2.output, h.output], Nat.le_trans h.size h2.size, fun k hk hne => (h2.block k (Nat.lt_of_lt_of_le hk h.size) hne).trans (h.block k hk hne)⟩
theorem drew_size (w : World) : w.drew.heap.size = w.heap.size := rfl
structure RpR (w : World) (g : Nat) (A : Option Addr) (n c : Nat) (b : List Nat) (r : Rr) : Prop where
  ex : ∃ q : Nat, Blk w g 64 #[.slice A n c, .int .i64 (q : Int), .bool r.2] ∧ q ≤ n ∧ b.drop q = r.1
theorem RpR.row {w w' : World} {g : Nat} {A : Option Addr} {n c : Nat} {b : List Nat} {r : Rr} {row : Option Nat} (h : RpR w g A n c b r) (hg : w.grownBy w' row) (hne : row ≠ some g) : RpR w' g A n c b r := by
  obtain ⟨q, h1, h2⟩ := h.ex
  exact ⟨q, h1.grownR hg hne, h2⟩
theorem RpR.below {w w' : World} {g : Nat} {A : Option Addr} {n c : Nat} {b : List Nat} {r : Rr} (h : RpR w g A n c b r) (hb : Below w.heap.size w w') : RpR w' g A n c b r := by
  obtain ⟨q, h1, h2⟩ := h.ex
  exact ⟨q, h1.below hb h1.lt, h2⟩
theorem RpR.lt {w : World} {g : Nat} {A : Option Addr} {n c : Nat} {b : List Nat} {r : Rr} (h : RpR w g A n c b r) : g < w.heap.size := by
  obtain ⟨q, h1, -⟩ := h.ex
  exact h1.lt
theorem cell3 {w : World} {g : Nat} {t : TypeId} {a b c : Value} (h : Blk w g t #[a, b, c]) : w.cell? ⟨g, 0, none⟩ = some a ∧ w.cell? ⟨g, 1, none⟩ = some b ∧ w.cell? ⟨g, 2, none⟩ = some c := by
  have h0 := h.cell_ 0
  have h1 := h.cell_ 1
  have h2 := h.cell_ 2
  simp at h0 h1 h2
  exact ⟨h0, h1, h2⟩
theorem tkR_big {n : Nat} {l : List Nat} (h : l.length < n) : tkR n (l, false) = ([], (l, true)) := by
  unfold tkR
  simp [h]
theorem tkR_ok {n : Nat} {l : List Nat} (h : n ≤ l.length) : tkR n (l, false) = (l.take n, (l.drop n, false)) := by
  unfold tkR
  have : ¬ l.length < n := by omega
  simp [this]
theorem rnm_any (many : Nat) (hm1 : 1 ≤ many) (hm : many ≤ 3) (b : List Nat) (n c B g : Nat) (A : Option Addr) (r : Rr) (w : World) (hn : b.length = n) (hS : Sl w B A (b.map byteV)) (hB : B ≤ g) (h8 : Bytes8 b) (n1 : n ≤ 100000) (hc : n ≤ c) (hcm : c ≤ maxLen) (hA : A = none → c = 0) (hR : RpR w g A n c b r) :
    Calls Tryd.prog 33 #[.pointer (some ⟨g, 0, none⟩), .int .i64 (many : Int)] w fun e' w' => e' = .returned (.int .i64 ((nmb many r).1 : Int)) ∧ RpR w' g A n c b (nmb many r).2 ∧ w.grownBy w' (some g) ∧ w'.heap.size = w.heap.size := by
  obtain ⟨l, bad⟩ := r
  obtain ⟨q, B1, hq, hl⟩ := hR.ex
  change b.drop q = l at hl
  change Blk w g 64 #[.slice A n c, .int .i64 (q : Int), .bool bad] at B1
  have hlen : l.length = n - q := by rw [← hl, List.length_drop, hn]
  obtain ⟨k0, k1, k2⟩ := cell3 B1
  have f1 := B1.free 1
  have f2 := B1.free 2
  have HL := Lib.hid hl
  have HN := Lib.hid hn
  have HS := Lib.hid hS
  have H8 := Lib.hid h8
  have HLN := Lib.hid hlen
  have hgl := B1.lt
  clear hR hl hn hS h8 hlen
  have hw : IntKind.i64.wrap ((n : Int) - (q : Int)) = (n : Int) - (q : Int) := by rw [IntKind.wrap_i64]; omega
  cases bad
  · by_cases hbig : n - q < many
    · have i0 : (n : Int) - (q : Int) < (many : Int) := by omega
      have HE : Hid (nmb many (l, false) = (0, (l, true))) := Lib.hid (by unfold nmb; rw [tkR_big (by rw [HLN.out]; exact hbig)]; rfl)
      clear hbig
      go_enter Tryd.func33, Tryd.ntmps33
      go_upto_region 1 with fail
      refine wp_region_noPanic ?_
      refine wp_region_held_drew (S := (fun w_ => w_.cell? ⟨g, 0, none⟩ = some (.slice A n c) ∧ w_.cell? ⟨g, 1, none⟩ = some (.int .i64 (q : Int)) ∧ w_.cell? ⟨g, 2, none⟩ = some (.bool false))) (by kernel_rfl) ?_ (fun hHeld => ?_)
      · (first | exact ⟨k0, k1, k2⟩ | assumption)
      refine tk 0 ?_; try simp only [Act.put, pz1, pz2, pz3]
      refine tk 1 ?_; try simp only [Act.put, pz1, pz2, pz3]
      refine tk 2 ?_; try simp only [Act.put, pz1, pz2, pz3]
      refine tk 3 ?_; try simp only [Act.put, pz1, pz2, pz3]
      refine tk 4 ?_; try simp only [Act.put, pz1, pz2, pz3]
      refine tk 5 ?_; try simp only [Act.put, pz1, pz2, pz3]
      refine tk 6 ?_; try simp only [Act.put, pz1, pz2, pz3]
      refine tk 7 ?_; try simp only [Act.put, pz1, pz2, pz3]
      refine tk 8 ?_; try simp only [Act.put, pz1, pz2, pz3]
      refine tk 9 ?_; try simp only [Act.put, pz1, pz2, pz3]
      refine tk 10 ?_; try simp only [Act.put, pz1, pz2, pz3]
      refine tk 11 ?_; try simp only [Act.put, pz1, pz2, pz3]
      refine tk 12 ?_; try simp only [Act.put, pz1, pz2, pz3]
      refine tk 13 ?_; try simp only [Act.put, pz1, pz2, pz3]
      refine tk 14 ?_; try simp only [Act.put, pz1, pz2, pz3]
      refine tk 15 ?_; try simp only [Act.put, pz1, pz2, pz3]
      refine tk 16 ?_; try simp only [Act.put, pz1, pz2, pz3]
      refine tk 17 ?_; try simp only [Act.put, pz1, pz2, pz3]
      refine wpAnyH_done (by kernel_rfl) ?_ _
      refine NoPanic.normal ?_
      clear hHeld
      have HD : Below w.heap.size w w.drew := below_dr w
      have f2 := (B1.below HD hgl).free 2
      go_wp2_with fail
      go_ret
      have hg : w.grownBy (w.drew.setCell ⟨g, 2, none⟩ (.bool true)) (some g) := gtrK (grown_of _ HD) (set1_grown _ _ _ _)
      have B2 := (B1.below HD hgl).set_ 2 (.bool true)
      simp at B2
      exact ⟨by rw [HE.out]; rfl, ⟨q, by rw [HE.out]; exact B2, hq, by rw [HE.out]; exact HL.out⟩, hg, by simp [drew_size]⟩
    · have i0 : ¬ (n : Int) - (q : Int) < (many : Int) := by omega
      have hqm : q + many ≤ n := by omega
      have HE : Hid (nmb many (l, false) = (numB (l.take many), (l.drop many, false))) := Lib.hid (by unfold nmb; rw [tkR_ok (by rw [HLN.out]; omega)])
      have hne : l ≠ [] := by
        intro e
        have := HLN.out
        rw [e] at this
        simp at this
        omega
      clear hbig
      go_enter Tryd.func33, Tryd.ntmps33
      go_upto_region 1 with fail
      refine wp_region_noPanic ?_
      refine wp_region_held_drew (S := (fun w_ => w_.cell? ⟨g, 0, none⟩ = some (.slice A n c) ∧ w_.cell? ⟨g, 1, none⟩ = some (.int .i64 (q : Int)) ∧ w_.cell? ⟨g, 2, none⟩ = some (.bool false))) (by kernel_rfl) ?_ (fun hHeld => ?_)
      · (first | exact ⟨k0, k1, k2⟩ | assumption)
      refine tk 0 ?_; try simp only [Act.put, pz1, pz2, pz3]
      refine tk 1 ?_; try simp only [Act.put, pz1, pz2, pz3]
      refine tk 2 ?_; try simp only [Act.put, pz1, pz2, pz3]
      refine tk 3 ?_; try simp only [Act.put, pz1, pz2, pz3]
      refine tk 4 ?_; try simp only [Act.put, pz1, pz2, pz3]
      refine tk 5 ?_; try simp only [Act.put, pz1, pz2, pz3]
      refine tk 6 ?_; try simp only [Act.put, pz1, pz2, pz3]
      refine tk 7 ?_; try simp only [Act.put, pz1, pz2, pz3]
      refine tk 8 ?_; try simp only [Act.put, pz1, pz2, pz3]
      refine tk 9 ?_; try simp only [Act.put, pz1, pz2, pz3]
      refine tk 10 ?_; try simp only [Act.put, pz1, pz2, pz3]
      refine tk 11 ?_; try simp only [Act.put, pz1, pz2, pz3]
      refine tk 12 ?_; try simp only [Act.put, pz1, pz2, pz3]
      refine tk 13 ?_; try simp only [Act.put, pz1, pz2, pz3]
      refine tk 14 ?_; try simp only [Act.put, pz1, pz2, pz3]
      refine tk 15 ?_; try simp only [Act.put, pz1, pz2, pz3]
      refine tk 16 ?_; try simp only [Act.put, pz1, pz2, pz3]
      refine tk 17 ?_; try simp only [Act.put, pz1, pz2, pz3]
      refine wpAnyH_done (by kernel_rfl) ?_ _
      refine NoPanic.normal ?_
      clear hHeld
      have HD : Below w.heap.size w w.drew := below_dr w
      have B1 := B1.below HD hgl
      have HSd := Lib.hid (HS.out.below (HD.mono (Nat.le_trans hB (Nat.le_of_lt hgl))))
      have hsd := drew_size w
      obtain ⟨wd, hwd⟩ : ∃ V : World, V = w.drew := ⟨_, rfl⟩
      rw [← hwd] at B1 HD HSd hsd ⊢
      clear hwd k0 k1 k2 f1 f2
      go_wp2_with fail
      go_loopw [5, 6] (fun s5 s6 wr => ∃ (k v : Nat), k ≤ many ∧ s6 = .int .i64 (k : Int) ∧ s5 = .int .i64 (v : Int) ∧ v = numB (l.take k) ∧ Below wd.heap.size wd wr ∧ wr.heap.size = wd.heap.size) (fun _ s6 _ => many - (intOf s6).toNat)
      case atStart => exact ⟨0, 0, Nat.zero_le _, rfl, rfl, rfl, Below.refl _ _, rfl⟩
      case round =>
        obtain ⟨k, v, hk, rfl, rfl, hv, hbr, hsz⟩ := hrel
        have hgl2 : g < wd.heap.size := by rw [hsd]; exact hgl
        have C1 := B1.below hbr hgl2
        obtain ⟨k0, k1, k2⟩ := cell3 C1
        have HV := Lib.hid hv
        by_cases hlt : k < many
        · have hkb : q + k < b.length := by rw [HN.out]; omega
          obtain ⟨b9, o9, rfl, l9, q9⟩ := (HSd.out.below (hbr.mono (Nat.le_trans hB (Nat.le_of_lt hgl2)))).at_ (by rw [List.length_map, HN.out]; omega)
          obtain ⟨x, hx⟩ : ∃ x, b[q + k]? = some x := ⟨_, List.getElem?_eq_getElem hkb⟩
          have kx := q9 (q + k) (byteV x) (by rw [List.getElem?_map, hx]; rfl)
          change wr.cell? _ = some (.int .u8 (x : Int)) at kx
          have hx8 := H8.out x (List.mem_of_getElem? hx)
          have hlx : l[k]? = some x := by rw [← HL.out, List.getElem?_drop]; exact hx
          have hkl : k < l.length := (List.getElem?_eq_some_iff.1 hlx).1
          have hnx : numB (l.take (k + 1)) = numB (l.take k) * 256 + x := by
            rw [numB_next hkl]
            have := (List.getElem?_eq_some_iff.1 hlx).2
            rw [this]
          have HNX := Lib.hid hnx
          have hvb : v < 65536 := by
            rw [hv]
            have h1 := numB_lt (k := k) (bs := l) (fun y hy => H8.out y (by rw [← HL.out] at hy; exact List.mem_of_mem_drop hy)) (by omega)
            have h2 : 256 ^ k ≤ 256 ^ 2 := Nat.pow_le_pow_right (by decide) (by omega)
            omega
          clear hkb hx q9 hlx hkl hnx hv
          obtain ⟨p, hp⟩ : ∃ p, q + k = p := ⟨_, rfl⟩
          rw [hp] at kx
          have z0 : (0 : Int) ≤ (p : Int) := by omega
          have z1 : (p : Int) < (n : Int) := by omega
          have z2 : (k : Int) < (many : Int) := by omega
          have z3 : (q : Int) + (k : Int) = (p : Int) := by omega
          have z4 : IntKind.i64.wrap (p : Int) = (p : Int) := by rw [IntKind.wrap_i64]; omega
          have z5 : IntKind.i64.wrap ((v : Int) * 256) = (v : Int) * 256 := by rw [IntKind.wrap_i64]; omega
          have z7 : IntKind.i64.wrap (x : Int) = (x : Int) := by rw [IntKind.wrap_i64]; omega
          have z6 : IntKind.i64.wrap ((v : Int) * 256 + (x : Int)) = (v : Int) * 256 + (x : Int) := by rw [IntKind.wrap_i64]; omega
          clear hp
          go_upto_region 8 with fail
          refine wp_region_noPanic ?_
          refine wp_region_held_drew (S := (fun w_ => w_.cell? ⟨g, 0, none⟩ = some (.slice (some ⟨b9, o9, none⟩) n c) ∧ w_.cell? ⟨g, 1, none⟩ = some (.int .i64 (q : Int)) ∧ w_.cell? ⟨g, 2, none⟩ = some (.bool false) ∧ w_.cell? ⟨b9, o9 + p, none⟩ = some (.int .u8 (x : Int)))) (by kernel_rfl) ?_ (fun hHeld => ?_)
          · (first | exact ⟨k0, k1, k2, kx⟩ | assumption)
          refine tk 0 ?_; try simp only [Act.put, pz1, pz2, pz3]
          refine tk 1 ?_; try simp only [Act.put, pz1, pz2, pz3]
          refine tk 2 ?_; try simp only [Act.put, pz1, pz2, pz3]
          refine tk 3 ?_; try simp only [Act.put, pz1, pz2, pz3]
          refine tk 4 ?_; try simp only [Act.put, pz1, pz2, pz3]
          refine tk 5 ?_; try simp only [Act.put, pz1, pz2, pz3]
          refine tk 6 ?_; try simp only [Act.put, pz1, pz2, pz3]
          refine tk 7 ?_; try simp only [Act.put, pz1, pz2, pz3]
          refine tk 8 ?_; try simp only [Act.put, pz1, pz2, pz3]
          refine tk 9 ?_; try simp only [Act.put, pz1, pz2, pz3]
          refine tk 10 ?_; try simp only [Act.put, pz1, pz2, pz3]
          refine tk 11 ?_; try simp only [Act.put, pz1, pz2, pz3]
          refine tk 12 ?_; try simp only [Act.put, pz1, pz2, pz3]
          refine tk 13 ?_; try simp only [Act.put, pz1, pz2, pz3]
          refine tk 14 ?_; try simp only [Act.put, pz1, pz2, pz3]
          refine tk 15 ?_; try simp only [Act.put, pz1, pz2, pz3]
          refine tk 16 ?_; try simp only [Act.put, pz1, pz2, pz3]
          refine wpAnyH_done (by kernel_rfl) ?_ _
          refine NoPanic.normal ?_
          clear hHeld
          go_wp2_with fail
          go_roundw
          case rel => exact ⟨k + 1, v * 256 + x, by omega, by go_num, by go_num, by rw [HNX.out, ← HV.out], drew_below hbr, hsz⟩
          case measure => simp [intOf]; omega
        · obtain rfl : k = many := by omega
          have f1 := C1.free 1
          have z6 : IntKind.i64.wrap ((q : Int) + (k : Int)) = (q : Int) + (k : Int) := by rw [IntKind.wrap_i64]; omega
          clear hv
          go_wp2_with fail
          go_ret
          have hg : w.grownBy (wr.setCell ⟨g, 1, none⟩ (.int .i64 ((q : Int) + (k : Int)))) (some g) := gtrK (gtrK (grown_of _ HD) (grown_of _ hbr)) (set1_grown _ _ _ _)
          have B2 := C1.set_ 1 (.int .i64 ((q : Int) + (k : Int)))
          simp at B2
          exact ⟨by rw [HE.out, HV.out]; rfl, ⟨q + k, by rw [HE.out]; exact B2, by omega, by rw [HE.out, ← HL.out, List.drop_drop]⟩, hg, by simp [hsz, hsd]⟩
  · have HE : Hid (nmb many (l, true) = (0, (l, true))) := Lib.hid rfl
    go_enter Tryd.func33, Tryd.ntmps33
    go_upto_region 1 with fail
    refine wp_region_noPanic ?_
    refine wp_region_held_drew (S := (fun w_ => w_.cell? ⟨g, 0, none⟩ = some (.slice A n c) ∧ w_.cell? ⟨g, 1, none⟩ = some (.int .i64 (q : Int)) ∧ w_.cell? ⟨g, 2, none⟩ = some (.bool true))) (by kernel_rfl) ?_ (fun hHeld => ?_)
    · (first | exact ⟨k0, k1, k2⟩ | assumption)
    refine tk 0 ?_; try simp only [Act.put, pz1, pz2, pz3]
    refine tk 1 ?_; try simp only [Act.put, pz1, pz2, pz3]
    refine tk 2 ?_; try simp only [Act.put, pz1, pz2, pz3]
    refine tk 3 ?_; try simp only [Act.put, pz1, pz2, pz3]
    refine tk 4 ?_; try simp only [Act.put, pz1, pz2, pz3]
    refine tu 5 ?_
    try simp only [Act.put, pz1, pz2, pz3]
    refine tu 6 ?_
    try simp only [Act.put, pz1, pz2, pz3]
    refine tu 7 ?_
    try simp only [Act.put, pz1, pz2, pz3]
    refine tu 8 ?_
    try simp only [Act.put, pz1, pz2, pz3]
    refine tu 9 ?_
    try simp only [Act.put, pz1, pz2, pz3]
    refine tu 10 ?_
    try simp only [Act.put, pz1, pz2, pz3]
    refine tu 11 ?_
    try simp only [Act.put, pz1, pz2, pz3]
    refine tu 12 ?_
    try simp only [Act.put, pz1, pz2, pz3]
    refine tu 13 ?_
    try simp only [Act.put, pz1, pz2, pz3]
    refine tu 14 ?_
    try simp only [Act.put, pz1, pz2, pz3]
    refine tu 15 ?_
    try simp only [Act.put, pz1, pz2, pz3]
    refine tu 16 ?_
    try simp only [Act.put, pz1, pz2, pz3]
    refine tk 17 ?_; try simp only [Act.put, pz1, pz2, pz3]
    refine wpAnyH_done (by kernel_rfl) ?_ _
    refine NoPanic.normal ?_
    clear hHeld
    have HD : Below w.heap.size w w.drew := below_dr w
    have f2 := (B1.below HD hgl).free 2
    go_wp2_with fail
    go_ret
    have hg : w.grownBy (w.drew.setCell ⟨g, 2, none⟩ (.bool true)) (some g) := gtrK (grown_of _ HD) (set1_grown _ _ _ _)
    have B2 := (B1.below HD hgl).set_ 2 (.bool true)
    simp at B2
    exact ⟨by rw [HE.out]; rfl, ⟨q, by rw [HE.out]; exact B2, hq, by rw [HE.out]; exact HL.out⟩, hg, by simp [drew_size]⟩
theorem rtx_any (b : List Nat) (n c B g : Nat) (A : Option Addr) (r : Rr) (w : World) (hn : b.length = n) (hS : Sl w B A (b.map byteV)) (hB : B ≤ g) (h8 : Bytes8 b) (n1 : n ≤ 100000) (hc : n ≤ c) (hcm : c ≤ maxLen) (hA : A = none → c = 0) (hR : RpR w g A n c b r) :
    Calls Tryd.prog 34 #[.pointer (some ⟨g, 0, none⟩)] w fun e' w' => e' = .returned (.string (txt r).1) ∧ RpR w' g A n c b (txt r).2 ∧ w.grownBy w' (some g) ∧ w'.heap.size = w.heap.size := by
  have NM1 : Calls Tryd.prog 33 #[.pointer (some ⟨g, 0, none⟩), .int .i64 1] w _ := rnm_any 1 (by decide) (by decide) b n c B g A r w hn hS hB h8 n1 hc hcm hA hR
  have hgl0 := hR.lt
  have hm255 : (nmb 1 r).1 ≤ 255 := by
    obtain ⟨q, -, -, hl⟩ := hR.ex
    have h8r : Bytes8 r.1 := fun x hx => by rw [← hl] at hx; exact h8 x (List.mem_of_mem_drop hx)
    exact nmb1_lt h8r
  obtain ⟨m, hm⟩ : ∃ m, (nmb 1 r).1 = m := ⟨_, rfl⟩
  obtain ⟨r1, hr1⟩ : ∃ x, (nmb 1 r).2 = x := ⟨_, rfl⟩
  rw [hm] at hm255
  have HT : Hid (txt r = (strN (tkR m r1).1, (tkR m r1).2)) := Lib.hid (by rw [← hm, ← hr1]; rfl)
  rw [hm, hr1] at NM1
  clear hm hr1 hR
  go_enter Tryd.func34, Tryd.ntmps34
  go_upto_region 2 with (go_at_call 33; ((with_reducible refine NM1.mono ?_); rintro e' w1 ⟨rfl, hR, hg1, hs1⟩))
  have hb1 : Below B w w1 := below_grown (Below.refl _ _) hg1 (Nat.le_trans hB (Nat.le_refl _)) (Nat.le_trans hB (Nat.le_of_lt hgl0))
  replace hS := hS.below hb1
  clear hb1 NM1
  obtain ⟨l, bad⟩ := r1
  obtain ⟨q, B1, hq, hl⟩ := hR.ex
  change b.drop q = l at hl
  change Blk w1 g 64 #[.slice A n c, .int .i64 (q : Int), .bool bad] at B1
  have hlen : l.length = n - q := by rw [← hl, List.length_drop, hn]
  obtain ⟨k0, k1, k2⟩ := cell3 B1
  have HL := Lib.hid hl
  have HN := Lib.hid hn
  have HS := Lib.hid hS
  have HLN := Lib.hid hlen
  have hgl := B1.lt
  clear hR hl hn hS hlen h8
  have hw : IntKind.i64.wrap ((n : Int) - (q : Int)) = (n : Int) - (q : Int) := by rw [IntKind.wrap_i64]; omega
  cases bad
  · by_cases hbig : n - q < m
    · have i0 : (n : Int) - (q : Int) < (m : Int) := by omega
      have HE : Hid (txt r = (⟨#[]⟩, (l, true))) := Lib.hid (by rw [HT.out, tkR_big (by rw [HLN.out]; exact hbig)]; rfl)
      clear hbig
      refine wp_region_noPanic ?_
      refine wp_region_held_drew (S := (fun w_ => w_.cell? ⟨g, 0, none⟩ = some (.slice A n c) ∧ w_.cell? ⟨g, 1, none⟩ = some (.int .i64 (q : Int)) ∧ w_.cell? ⟨g, 2, none⟩ = some (.bool false))) (by kernel_rfl) ?_ (fun hHeld => ?_)
      · (first | exact ⟨k0, k1, k2⟩ | assumption)
      refine tk 0 ?_; try simp only [Act.put, pz1, pz2, pz3]
      refine tk 1 ?_; try simp only [Act.put, pz1, pz2, pz3]
      refine tk 2 ?_; try simp only [Act.put, pz1, pz2, pz3]
      refine tk 3 ?_; try simp only [Act.put, pz1, pz2, pz3]
      refine tk 4 ?_; try simp only [Act.put, pz1, pz2, pz3]
      refine tk 5 ?_; try simp only [Act.put, pz1, pz2, pz3]
      refine tk 6 ?_; try simp only [Act.put, pz1, pz2, pz3]
      refine tk 7 ?_; try simp only [Act.put, pz1, pz2, pz3]
      refine tk 8 ?_; try simp only [Act.put, pz1, pz2, pz3]
      refine tk 9 ?_; try simp only [Act.put, pz1, pz2, pz3]
      refine tk 10 ?_; try simp only [Act.put, pz1, pz2, pz3]
      refine tk 11 ?_; try simp only [Act.put, pz1, pz2, pz3]
      refine tk 12 ?_; try simp only [Act.put, pz1, pz2, pz3]
      refine tk 13 ?_; try simp only [Act.put, pz1, pz2, pz3]
      refine tk 14 ?_; try simp only [Act.put, pz1, pz2, pz3]
      refine tk 15 ?_; try simp only [Act.put, pz1, pz2, pz3]
      refine tk 16 ?_; try simp only [Act.put, pz1, pz2, pz3]
      refine tk 17 ?_; try simp only [Act.put, pz1, pz2, pz3]
      refine wpAnyH_done (by kernel_rfl) ?_ _
      refine NoPanic.normal ?_
      clear hHeld
      have HD : Below w1.heap.size w1 w1.drew := below_dr w1
      have f2 := (B1.below HD hgl).free 2
      go_wp2_with fail
      go_ret
      have hg : w.grownBy (w1.drew.setCell ⟨g, 2, none⟩ (.bool true)) (some g) := gtrK hg1 (gtrK (grown_of _ HD) (set1_grown _ _ _ _))
      have B2 := (B1.below HD hgl).set_ 2 (.bool true)
      simp at B2
      exact ⟨by rw [HE.out]; rfl, ⟨q, by rw [HE.out]; exact B2, hq, by rw [HE.out]; exact HL.out⟩, hg, by simp [drew_size, hs1]⟩
    · have i0 : ¬ (n : Int) - (q : Int) < (m : Int) := by omega
      have hqm : q + m ≤ n := by omega
      have HE : Hid (txt r = (strN (l.take m), (l.drop m, false))) := Lib.hid (by rw [HT.out, tkR_ok (by rw [HLN.out]; omega)])
      clear hbig
      refine wp_region_noPanic ?_
      refine wp_region_held_drew (S := (fun w_ => w_.cell? ⟨g, 0, none⟩ = some (.slice A n c) ∧ w_.cell? ⟨g, 1, none⟩ = some (.int .i64 (q : Int)) ∧ w_.cell? ⟨g, 2, none⟩ = some (.bool false))) (by kernel_rfl) ?_ (fun hHeld => ?_)
      · (first | exact ⟨k0, k1, k2⟩ | assumption)
      refine tk 0 ?_; try simp only [Act.put, pz1, pz2, pz3]
      refine tk 1 ?_; try simp only [Act.put, pz1, pz2, pz3]
      refine tk 2 ?_; try simp only [Act.put, pz1, pz2, pz3]
      refine tk 3 ?_; try simp only [Act.put, pz1, pz2, pz3]
      refine tk 4 ?_; try simp only [Act.put, pz1, pz2, pz3]
      refine tk 5 ?_; try simp only [Act.put, pz1, pz2, pz3]
      refine tk 6 ?_; try simp only [Act.put, pz1, pz2, pz3]
      refine tk 7 ?_; try simp only [Act.put, pz1, pz2, pz3]
      refine tk 8 ?_; try simp only [Act.put, pz1, pz2, pz3]
      refine tk 9 ?_; try simp only [Act.put, pz1, pz2, pz3]
      refine tk 10 ?_; try simp only [Act.put, pz1, pz2, pz3]
      refine tk 11 ?_; try simp only [Act.put, pz1, pz2, pz3]
      refine tk 12 ?_; try simp only [Act.put, pz1, pz2, pz3]
      refine tk 13 ?_; try simp only [Act.put, pz1, pz2, pz3]
      refine tk 14 ?_; try simp only [Act.put, pz1, pz2, pz3]
      refine tk 15 ?_; try simp only [Act.put, pz1, pz2, pz3]
      refine tk 16 ?_; try simp only [Act.put, pz1, pz2, pz3]
      refine tk 17 ?_; try simp only [Act.put, pz1, pz2, pz3]
      refine wpAnyH_done (by kernel_rfl) ?_ _
      refine NoPanic.normal ?_
      clear hHeld
      have HD : Below w1.heap.size w1 w1.drew := below_dr w1
      have B1 := B1.below HD hgl
      have hBw : B ≤ w1.heap.size := Nat.le_trans hB (Nat.le_of_lt hgl)
      have hS2 := HS.out.below (HD.mono hBw)
      have hsd := drew_size w1
      have hgd : w.grownBy w1.drew (some g) := gtrK hg1 (grown_of _ HD)
      obtain ⟨wd, hwd⟩ : ∃ V : World, V = w1.drew := ⟨_, rfl⟩
      rw [← hwd] at B1 HD hS2 hsd hgd ⊢
      clear hwd k0 k1 k2
      obtain ⟨k0, k1, k2⟩ := cell3 B1
      have f1 := B1.free 1
      obtain ⟨q2, hq2⟩ : ∃ q2 : Nat, q + m = q2 := ⟨_, rfl⟩
      have z3 : (q : Int) + (m : Int) = (q2 : Int) := by omega
      have z33 : IntKind.i64.wrap (q2 : Int) = (q2 : Int) := by rw [IntKind.wrap_i64]; omega
      have hg3 : w.grownBy (wd.setCell ⟨g, 1, none⟩ (.int .i64 (q2 : Int))) (some g) := gtrK hgd (set1_grown _ _ _ _)
      have B3 := B1.set_ 1 (.int .i64 (q2 : Int))
      have hS3 := hS2.below (below_grown (Below.refl B wd) (set1_grown wd g 1 (.int .i64 (q2 : Int))) hB (by rw [hsd]; exact hBw))
      have hsz3 : (wd.setCell ⟨g, 1, none⟩ (.int .i64 (q2 : Int))).heap.size = w1.heap.size := by simp [hsd]
      simp only [List.setIfInBounds_toArray, List.set_cons_zero, List.set_cons_succ] at B3
      go_upto_region 6 with fail
      obtain ⟨w3, hw3⟩ : ∃ V : World, V = wd.setCell ⟨g, 1, none⟩ (.int .i64 (q2 : Int)) := ⟨_, rfl⟩
      rw [← hw3] at hg3 B3 hS3 hsz3 ⊢
      clear hw3 k0 k1 k2 f1 HS hS2 B1
      obtain ⟨k0, k1, k2⟩ := cell3 B3
      have z4 : (q2 : Int) - (m : Int) = (q : Int) := by omega
      have z44 : IntKind.i64.wrap (q : Int) = (q : Int) := by rw [IntKind.wrap_i64]; omega
      have z5 : (0 : Int) ≤ (q : Int) := by omega
      have z6 : (q : Int) ≤ (q2 : Int) := by omega
      have z7 : (q2 : Int) ≤ (c : Int) := by omega
      have HTL : Hid ((l.take m).length = m) := Lib.hid (by rw [List.length_take, HLN.out]; omega)
      have DQ : Hid (b.drop q2 = l.drop m) := Lib.hid (by rw [← hq2, ← HL.out, List.drop_drop])
      cases A with
      | none =>
        have hc0 : c = 0 := hA rfl
        subst hc0
        obtain rfl : n = 0 := by omega
        obtain rfl : q2 = 0 := by omega
        obtain rfl : q = 0 := by omega
        obtain rfl : m = 0 := by omega
        have z00 : IntKind.i64.wrap 0 = 0 := by rw [IntKind.wrap_i64]; rfl
        have SLX : Hid (∀ W : World, Sl W B none (b.map byteV) → Sl W B none ((l.take 0).map byteV)) := Lib.hid fun W h => Or.inl rfl
        refine wp_region_noPanic ?_
        refine wp_region_held_drew (S := (fun w_ => w_.cell? ⟨g, 0, none⟩ = some (.slice none 0 0) ∧ w_.cell? ⟨g, 1, none⟩ = some (.int .i64 (0 : Int)) ∧ w_.cell? ⟨g, 2, none⟩ = some (.bool false) ∧ Sl w_ B none (b.map byteV))) (by kernel_rfl) ?_ (fun hHeld => ?_)
        · (first | exact ⟨k0, k1, k2, hS3⟩ | assumption)
        refine tk 0 ?_; try simp only [Act.put, pz1, pz2, pz3]
        refine tk 1 ?_; try simp only [Act.put, pz1, pz2, pz3]
        refine tk 2 ?_; try simp only [Act.put, pz1, pz2, pz3]
        refine tk 3 ?_; try simp only [Act.put, pz1, pz2, pz3]
        refine tk 4 ?_; try simp only [Act.put, pz1, pz2, pz3]
        refine tk 5 ?_; try simp only [Act.put, pz1, pz2, pz3]
        refine tk 6 ?_; try simp only [Act.put, pz1, pz2, pz3]
        refine tk 7 ?_; try simp only [Act.put, pz1, pz2, pz3]
        refine tk 8 ?_; try simp only [Act.put, pz1, pz2, pz3]
        refine tk 9 ?_; try simp only [Act.put, pz1, pz2, pz3]
        refine tk 10 ?_; try simp only [Act.put, pz1, pz2, pz3]
        refine tk 11 ?_; try simp only [Act.put, pz1, pz2, pz3]
        refine tk 12 ?_; try simp only [Act.put, pz1, pz2, pz3]
        refine tk 13 ?_; try simp only [Act.put, pz1, pz2, pz3]
        refine tk 14 ?_; try simp only [Act.put, pz1, pz2, pz3]
        refine wpAnyH_ready (rs := [15]) (by kernel_rfl) (by simp) ?_
        refine AllReadyH.cons (o := ⟨some 51, .convert 28 9 (.tmp 50), 9, "ref.go:75", #[⟨14, .data⟩], none⟩) rfl (fun K hK => ?_) AllReadyH.nil
        have hcv := fun cc => conv_str (l.take 0) 0 none cc B _ HTL.out (SLX.out _ hHeld.2.2.2)
        go_simp
        refine hK.out _ _ ?_ (fun hNew => ?_)
        · (first | exact ⟨k0, k1, k2, hS3⟩ | assumption)
        clear hK K hHeld
        have hHeld := hNew
        clear hNew
        try simp only [Act.put, pz1, pz2, pz3]
        refine tk 16 ?_; try simp only [Act.put, pz1, pz2, pz3]
        refine wpAnyH_done (by kernel_rfl) ?_ _
        refine NoPanic.normal ?_
        clear hHeld
        go_wp2_with fail
        go_ret
        exact ⟨by rw [HE.out]; rfl, ⟨0, by rw [HE.out]; exact B3.below (below_dr _) (by rw [hsz3]; exact hgl), by omega, by rw [HE.out]; exact DQ.out⟩, gtrK hg3 (grown_of _ (below_dr _)), by rw [drew_size, hsz3, hs1]⟩
      | some ad =>
        obtain ⟨b9, o9, p9⟩ := ad
        by_cases hcq : c = q
        · obtain rfl : m = 0 := by omega
          obtain rfl : q2 = q := by omega
          obtain rfl : q2 = c := by omega
          clear hcq
          have SLX : Hid (∀ W : World, Sl W B (some ⟨b9, o9, p9⟩) (b.map byteV) → Sl W B (some ⟨b9, o9, p9⟩) ((l.take 0).map byteV)) := Lib.hid fun W h => Or.inl rfl
          refine wp_region_noPanic ?_
          refine wp_region_held_drew (S := (fun w_ => w_.cell? ⟨g, 0, none⟩ = some (.slice (some ⟨b9, o9, p9⟩) n q2) ∧ w_.cell? ⟨g, 1, none⟩ = some (.int .i64 (q2 : Int)) ∧ w_.cell? ⟨g, 2, none⟩ = some (.bool false) ∧ Sl w_ B (some ⟨b9, o9, p9⟩) (b.map byteV))) (by kernel_rfl) ?_ (fun hHeld => ?_)
          · (first | exact ⟨k0, k1, k2, hS3⟩ | assumption)
          refine tk 0 ?_; try simp only [Act.put, pz1, pz2, pz3]
          refine tk 1 ?_; try simp only [Act.put, pz1, pz2, pz3]
          refine tk 2 ?_; try simp only [Act.put, pz1, pz2, pz3]
          refine tk 3 ?_; try simp only [Act.put, pz1, pz2, pz3]
          refine tk 4 ?_; try simp only [Act.put, pz1, pz2, pz3]
          refine tk 5 ?_; try simp only [Act.put, pz1, pz2, pz3]
          refine tk 6 ?_; try simp only [Act.put, pz1, pz2, pz3]
          refine tk 7 ?_; try simp only [Act.put, pz1, pz2, pz3]
          refine tk 8 ?_; try simp only [Act.put, pz1, pz2, pz3]
          refine tk 9 ?_; try simp only [Act.put, pz1, pz2, pz3]
          refine tk 10 ?_; try simp only [Act.put, pz1, pz2, pz3]
          refine tk 11 ?_; try simp only [Act.put, pz1, pz2, pz3]
          refine tk 12 ?_; try simp only [Act.put, pz1, pz2, pz3]
          refine tk 13 ?_; try simp only [Act.put, pz1, pz2, pz3]
          refine tk 14 ?_; try simp only [Act.put, pz1, pz2, pz3]
          refine wpAnyH_ready (rs := [15]) (by kernel_rfl) (by simp) ?_
          refine AllReadyH.cons (o := ⟨some 51, .convert 28 9 (.tmp 50), 9, "ref.go:75", #[⟨14, .data⟩], none⟩) rfl (fun K hK => ?_) AllReadyH.nil
          have hcv := fun cc => conv_str (l.take 0) 0 (some ⟨b9, o9, p9⟩) cc B _ HTL.out (SLX.out _ hHeld.2.2.2)
          go_simp
          refine hK.out _ _ ?_ (fun hNew => ?_)
          · (first | exact ⟨k0, k1, k2, hS3⟩ | assumption)
          clear hK K hHeld
          have hHeld := hNew
          clear hNew
          try simp only [Act.put, pz1, pz2, pz3]
          refine tk 16 ?_; try simp only [Act.put, pz1, pz2, pz3]
          refine wpAnyH_done (by kernel_rfl) ?_ _
          refine NoPanic.normal ?_
          clear hHeld
          go_wp2_with fail
          go_ret
          exact ⟨by rw [HE.out]; rfl, ⟨q2, by rw [HE.out]; exact B3.below (below_dr _) (by rw [hsz3]; exact hgl), by omega, by rw [HE.out]; exact DQ.out⟩, gtrK hg3 (grown_of _ (below_dr _)), by rw [drew_size, hsz3, hs1]⟩
        · have z8 : ¬ (c : Int) = (q : Int) := by omega
          have z9 : ¬ c = q := hcq
          have z11 : q2 - q = m := by omega
          have SLX : Hid (∀ W : World, Sl W B (some ⟨b9, o9, p9⟩) (b.map byteV) → Sl W B (some ((⟨b9, o9, p9⟩ : Addr).add q)) ((l.take m).map byteV)) := Lib.hid fun W h => by
            rcases h with h | ⟨b', o', e, hlt, hc⟩
            · have hb : b = [] := by simpa using h
              have : l = [] := by rw [← HL.out, hb]; simp
              rw [this]
              exact Or.inl (by simp)
            · cases e
              refine Or.inr ⟨b9, o9 + q, by rw [Addr.add_lit], hlt, fun j u hj => ?_⟩
              rw [List.map_take, List.getElem?_take] at hj
              split at hj
              · rw [← HL.out, List.map_drop, List.getElem?_drop] at hj
                have := hc (q + j) u hj
                rw [← Nat.add_assoc] at this
                exact this
              · cases hj
          refine wp_region_noPanic ?_
          refine wp_region_held_drew (S := (fun w_ => w_.cell? ⟨g, 0, none⟩ = some (.slice (some ⟨b9, o9, p9⟩) n c) ∧ w_.cell? ⟨g, 1, none⟩ = some (.int .i64 (q2 : Int)) ∧ w_.cell? ⟨g, 2, none⟩ = some (.bool false) ∧ Sl w_ B (some ⟨b9, o9, p9⟩) (b.map byteV))) (by kernel_rfl) ?_ (fun hHeld => ?_)
          · (first | exact ⟨k0, k1, k2, hS3⟩ | assumption)
          refine tk 0 ?_; try simp only [Act.put, pz1, pz2, pz3]
          refine tk 1 ?_; try simp only [Act.put, pz1, pz2, pz3]
          refine tk 2 ?_; try simp only [Act.put, pz1, pz2, pz3]
          refine tk 3 ?_; try simp only [Act.put, pz1, pz2, pz3]
          refine tk 4 ?_; try simp only [Act.put, pz1, pz2, pz3]
          refine tk 5 ?_; try simp only [Act.put, pz1, pz2, pz3]
          refine tk 6 ?_; try simp only [Act.put, pz1, pz2, pz3]
          refine tk 7 ?_; try simp only [Act.put, pz1, pz2, pz3]
          refine tk 8 ?_; try simp only [Act.put, pz1, pz2, pz3]
          refine tk 9 ?_; try simp only [Act.put, pz1, pz2, pz3]
          refine tk 10 ?_; try simp only [Act.put, pz1, pz2, pz3]
          refine tk 11 ?_; try simp only [Act.put, pz1, pz2, pz3]
          refine tk 12 ?_; try simp only [Act.put, pz1, pz2, pz3]
          refine tk 13 ?_; try simp only [Act.put, pz1, pz2, pz3]
          refine tk 14 ?_; try simp only [Act.put, pz1, pz2, pz3]
          refine wpAnyH_ready (rs := [15]) (by kernel_rfl) (by simp) ?_
          refine AllReadyH.cons (o := ⟨some 51, .convert 28 9 (.tmp 50), 9, "ref.go:75", #[⟨14, .data⟩], none⟩) rfl (fun K hK => ?_) AllReadyH.nil
          have hcv := fun cc => conv_str (l.take m) m (some ((⟨b9, o9, p9⟩ : Addr).add q)) cc B _ HTL.out (SLX.out _ hHeld.2.2.2)
          go_simp
          refine hK.out _ _ ?_ (fun hNew => ?_)
          · (first | exact ⟨k0, k1, k2, hS3⟩ | assumption)
          clear hK K hHeld
          have hHeld := hNew
          clear hNew
          try simp only [Act.put, pz1, pz2, pz3]
          refine tk 16 ?_; try simp only [Act.put, pz1, pz2, pz3]
          refine wpAnyH_done (by kernel_rfl) ?_ _
          refine NoPanic.normal ?_
          clear hHeld
          go_wp2_with fail
          go_ret
          exact ⟨by rw [HE.out]; rfl, ⟨q2, by rw [HE.out]; exact B3.below (below_dr _) (by rw [hsz3]; exact hgl), by omega, by rw [HE.out]; exact DQ.out⟩, gtrK hg3 (grown_of _ (below_dr _)), by rw [drew_size, hsz3, hs1]⟩
  · have HE : Hid (txt r = (⟨#[]⟩, (l, true))) := Lib.hid (by rw [HT.out]; rfl)
    refine wp_region_noPanic ?_
    refine wp_region_held_drew (S := (fun w_ => w_.cell? ⟨g, 0, none⟩ = some (.slice A n c) ∧ w_.cell? ⟨g, 1, none⟩ = some (.int .i64 (q : Int)) ∧ w_.cell? ⟨g, 2, none⟩ = some (.bool true))) (by kernel_rfl) ?_ (fun hHeld => ?_)
    · (first | exact ⟨k0, k1, k2⟩ | assumption)
    refine tk 0 ?_; try simp only [Act.put, pz1, pz2, pz3]
    refine tk 1 ?_; try simp only [Act.put, pz1, pz2, pz3]
    refine tk 2 ?_; try simp only [Act.put, pz1, pz2, pz3]
    refine tk 3 ?_; try simp only [Act.put, pz1, pz2, pz3]
    refine tk 4 ?_; try simp only [Act.put, pz1, pz2, pz3]
    refine tu 5 ?_
    try simp only [Act.put, pz1, pz2, pz3]
    refine tu 6 ?_
    try simp only [Act.put, pz1, pz2, pz3]
    refine tu 7 ?_
    try simp only [Act.put, pz1, pz2, pz3]
    refine tu 8 ?_
    try simp only [Act.put, pz1, pz2, pz3]
    refine tu 9 ?_
    try simp only [Act.put, pz1, pz2, pz3]
    refine tu 10 ?_
    try simp only [Act.put, pz1, pz2, pz3]
    refine tu 11 ?_
    try simp only [Act.put, pz1, pz2, pz3]
    refine tu 12 ?_
    try simp only [Act.put, pz1, pz2, pz3]
    refine tu 13 ?_
    try simp only [Act.put, pz1, pz2, pz3]
    refine tu 14 ?_
    try simp only [Act.put, pz1, pz2, pz3]
    refine tu 15 ?_
    try simp only [Act.put, pz1, pz2, pz3]
    refine tu 16 ?_
    try simp only [Act.put, pz1, pz2, pz3]
    refine tk 17 ?_; try simp only [Act.put, pz1, pz2, pz3]
    refine wpAnyH_done (by kernel_rfl) ?_ _
    refine NoPanic.normal ?_
    clear hHeld
    have HD : Below w1.heap.size w1 w1.drew := below_dr w1
    have f2 := (B1.below HD hgl).free 2
    go_wp2_with fail
    go_ret
    have hg : w.grownBy (w1.drew.setCell ⟨g, 2, none⟩ (.bool true)) (some g) := gtrK hg1 (gtrK (grown_of _ HD) (set1_grown _ _ _ _))
    have B2 := (B1.below HD hgl).set_ 2 (.bool true)
    simp at B2
    exact ⟨by rw [HE.out]; rfl, ⟨q, by rw [HE.out]; exact B2, hq, by rw [HE.out]; exact HL.out⟩, hg, by simp [drew_size, hs1]⟩
end Go.Proofs.YtllnfociddodcaaDoor
namespace Go.Proofs.YtllnfociddodcaaDoor
open Go.ChangeShapes Go.WideShapes Go.ChangeAt Go.RowKit
theorem sameB_any (xs ys : List Nat) (A B : Option Addr) (c d : Nat) (w : World) (h1 : Sl w w.heap.size A (xs.map byteV)) (h2 : Sl w w.heap.size B (ys.map byteV)) (n1 : xs.length ≤ 1000000) (n2 : ys.length ≤ 1000000) :
    Calls Tryd.prog 12 #[.slice A xs.length c, .slice B ys.length d] w fun e w' => e = .returned (.bool (decide (xs = ys))) ∧ Below w.heap.size w w' := by
  go_enter Tryd.func12, Tryd.ntmps12
  by_cases hl : xs.length = ys.length
  · go_wp2
    go_loopw [5] (fun i wr => ∃ k : Nat, k ≤ xs.length ∧ i = .int .i64 k ∧ Hid (xs.take k = ys.take k) ∧ Below w.heap.size w wr) (fun i _ => xs.length - (intOf i).toNat)
    case atStart => exact ⟨0, Nat.zero_le _, rfl, Lib.hid rfl, Below.refl _ _⟩
    case round =>
      obtain ⟨k, hk, rfl, hd, hB⟩ := hrel
      by_cases hlt : k < xs.length
      · obtain ⟨b1, o1, rfl, l1, q1⟩ := h1.at_ (by simpa using (by omega : 0 < xs.length))
        obtain ⟨b2, o2, rfl, l2, q2⟩ := h2.at_ (by simpa using (by omega : 0 < ys.length))
        obtain ⟨x, hx⟩ : ∃ x, xs[k]? = some x := ⟨_, List.getElem?_eq_getElem hlt⟩
        obtain ⟨y, hy⟩ : ∃ y, ys[k]? = some y := ⟨_, List.getElem?_eq_getElem (by omega)⟩
        have cx : wr.cell? ⟨b1, o1 + k, none⟩ = some (.int .u8 (x : Int)) := (hB.cell (p := ⟨b1, o1 + k, none⟩) l1).trans (q1 k _ (by rw [List.getElem?_map, hx]; rfl))
        have cy : wr.cell? ⟨b2, o2 + k, none⟩ = some (.int .u8 (y : Int)) := (hB.cell (p := ⟨b2, o2 + k, none⟩) l2).trans (q2 k _ (by rw [List.getElem?_map, hy]; rfl))
        have Hx := Lib.hid hx
        have Hy := Lib.hid hy
        clear hx hy q1 q2
        have i1 : (0 : Int) ≤ (k : Int) := by omega
        have i2 : (k : Int) < (xs.length : Int) := by omega
        have i3 : (k : Int) < (ys.length : Int) := by omega
        by_cases hxy : x = y
        · subst hxy
          go_wp2
          go_quiet (fail)
          go_wp2
          refine ⟨⟨k + 1, by omega, by go_num, ?_, below_dn hB _⟩, by simp [intOf]; omega⟩
          show xs.take (k + 1) = ys.take (k + 1)
          rw [List.take_add_one, List.take_add_one, hd.out, Hx.out, Hy.out]
        · have hb : ((x : Int) != (y : Int)) = true := by
            simp only [bne_iff_ne, ne_eq]
            omega
          have hne : xs ≠ ys := by
            intro h
            subst h
            exact hxy (Option.some.inj (Hx.out.symm.trans Hy.out))
          have Hne := Lib.hid hne
          clear hne hxy
          go_wp2
          go_quiet (fail)
          go_wp2
          go_ret
          exact ⟨by rw [decide_eq_false Hne.out]; rfl, below_dn hB _⟩
      · have : k = xs.length := by omega
        subst this
        have he : xs = ys := by
          have := hd.out
          rw [List.take_length, hl, List.take_length] at this
          exact this
        clear hd
        go_wp2
        go_ret
        exact ⟨by rw [decide_eq_true he]; rfl, hB⟩
  · have hne : xs ≠ ys := fun h => hl (by rw [h])
    go_wp2
    go_ret
    exact ⟨by rw [decide_eq_false hne]; rfl, Below.refl _ _⟩
theorem keptB_any (xs ys : List Nat) (g : Nat) (B : Option Addr) (d : Nat) (w : World) (h1 : LentB w g (xs.map byteV)) (h2 : Sl w w.heap.size B (ys.map byteV)) (n1 : xs.length ≤ 1000000) (n2 : ys.length ≤ 1000000) :
    Calls Tryd.prog 20 #[.slice (some ⟨g, 0, none⟩) xs.length (xs.length + 3), .slice B ys.length d] w fun e w' => e = .returned (.bool (decide (xs = ys))) ∧ Below w.heap.size w w' := by
  have s1 := h1.sl
  have hg := h1.lt
  obtain ⟨cur, hblk, _, hroom⟩ := h1
  have hl : (xs.map byteV).length = xs.length := by simp
  rw [hl] at hroom
  have Hroom := Lib.hid hroom
  clear hroom hl
  have e3 : xs.length + 3 - xs.length = 3 := by omega
  go_enter Tryd.func20, Tryd.ntmps20
  go_wp2
  go_loopw [6] (fun i wr => ∃ k : Nat, k ≤ 3 ∧ i = .int .i64 k ∧ wr = w) (fun i _ => 3 - (intOf i).toNat)
  case atStart => exact ⟨0, Nat.zero_le _, rfl, rfl⟩
  case round =>
    obtain ⟨k, hk, rfl, rfl⟩ := hrel
    by_cases hlt : k < 3
    · have ck : wr.cell? ⟨g, xs.length + k, none⟩ = some (.int .u8 119) := by rw [hblk.cell_]; exact Hroom.out k hlt
      have i1 : (0 : Int) ≤ (k : Int) := by omega
      have i2 : (k : Int) < 3 := by omega
      go_wp2
      refine ⟨⟨k + 1, by omega, by go_num, trivial⟩, by simp [intOf]; omega⟩
    · have : k = 3 := by omega
      subst this
      go_wp2_with (go_at_call 12; refine (sameB_any xs ys _ B _ d wr s1 h2 n1 n2).mono ?_; rintro e w' ⟨rfl, hb⟩)
      go_ret
      exact ⟨rfl, hb⟩
end Go.Proofs.YtllnfociddodcaaDoor
namespace Go.Proofs.YtllnfociddodcaaDoor
open Go.ChangeShapes Go.WideShapes Go.ChangeAt Go.RowKit
attribute [local go_sem ↓] Go.wp_at_zero Go.wp_at_succ
theorem b8_cons {x : Nat} {l : List Nat} (hx : x < 256) (h : Bytes8 l) : Bytes8 (x :: l) := fun y hy => by
  rcases List.mem_cons.1 hy with rfl | hy
  · exact hx
  · exact h y hy
theorem b8_append {a l : List Nat} (ha : Bytes8 a) (h : Bytes8 l) : Bytes8 (a ++ l) := fun y hy => by
  rcases List.mem_append.1 hy with hy | hy
  · exact ha y hy
  · exact h y hy
theorem b8_flat {α : Type} {f : α → List Nat} {l : List α} (h : ∀ x ∈ l, Bytes8 (f x)) : Bytes8 (l.flatMap f) := fun y hy => by
  obtain ⟨x, hx, hy⟩ := List.mem_flatMap.1 hy
  exact h x hx y hy
theorem nmL_8 {x : ByteArray} (h : x.size ≤ 20) : Bytes8 (nmL x) := b8_cons (by omega) (bytN_8 x)
theorem shL_8 {s : Sf} (h : MayF s) : Bytes8 (shL s) := by
  have h1 := h.bl
  have h2 := h.tl
  refine b8_append (iL_8 _ _) (b8_append (iL_8 _ _) (b8_append (iL_8 _ _) (b8_cons (by omega) (b8_append (b8_flat fun b hb => ?_) (b8_cons (by omega) (b8_flat fun n hn => ?_))))))
  · exact b8_append (iL_8 _ _) (nmL_8 (may_sz (h.bs b hb).2.2.1))
  · have q := h.nts hn
    have q1 := q.tl
    have q2 := q.sl
    exact b8_append (iL_8 _ _) (b8_append (iL_8 _ _) (b8_append (nmL_8 q.nm) (b8_cons (by omega) (b8_append (b8_flat fun t ht => nmL_8 (q.tg t ht)) (b8_cons (by omega) (b8_flat fun z hz => iL_8 _ _))))))
theorem ByR.arg {w : World} {base : Nat} {v : Value} {xs : List Nat} (h : ByR w base v xs) : ∃ A c, v = .slice A xs.length c ∧ Sl w w.heap.size A (xs.map byteV) ∧ xs.length ≤ c ∧ c ≤ maxLen ∧ (A = none → c = 0) := by
  obtain ⟨A, c, rfl, h1, h2⟩ := own_shape h
  refine ⟨A, c, rfl, Sl.of_own h, h1, h2, fun hA => ?_⟩
  subst hA
  rcases h.2 with ⟨e, _⟩ | ⟨g, cap, cur, e, _⟩
  · injection e with _ _ h3
  · cases e
theorem read_yes (s : Sf) (hF : MayF s) (n : Nat) (A : Option Addr) (c : Nat) (w : World) (hn : (shL s).length = n) (h : Sl w w.heap.size A ((shL s).map byteV)) (hc : n ≤ c) (hcm : c ≤ maxLen) (n1 : n ≤ 100000) (hA : A = none → c = 0) (hT : Tabs w) :
    Calls Tryd.prog 18 #[.slice A n c] w fun e' w' => ∃ v', e' = .returned (.tuple #[v', .int .i64 0]) ∧ ShW w' w.heap.size v' s ∧ Below w.heap.size w w' := by
  refine (read_any (shL s) n A c w hn h (shL_8 hF) hc hcm n1 hA hT).mono ?_
  rintro e' w' ⟨⟨v, rfl, hS⟩, hb⟩
  obtain ⟨h1, h2⟩ := okR_lay hF
  rw [h1] at hS ⊢
  refine ⟨v, rfl, ?_, hb⟩
  rw [← h2]
  exact hS
theorem read_no (b : List Nat) (hO : okR b = false) (n : Nat) (A : Option Addr) (c : Nat) (w : World) (hn : b.length = n) (h : Sl w w.heap.size A (b.map byteV)) (h8 : Bytes8 b) (hc : n ≤ c) (hcm : c ≤ maxLen) (n1 : n ≤ 100000) (hA : A = none → c = 0) (hT : Tabs w) :
    Calls Tryd.prog 18 #[.slice A n c] w fun e' w' => ∃ v', e' = .returned (.tuple #[v', .int .i64 5]) ∧ ShW w' w.heap.size v' ⟨0, 0, 0, [], []⟩ ∧ Below w.heap.size w w' := by
  refine (read_any b n A c w hn h h8 hc hcm n1 hA hT).mono ?_
  rintro e' w' ⟨⟨v, rfl, hS⟩, hb⟩
  rw [hO] at hS ⊢
  exact ⟨v, rfl, hS, hb⟩
theorem sameB_b (b : Bool) (xs ys : List Nat) (n m : Nat) (hn : xs.length = n) (hm : ys.length = m) (hb : decide (xs = ys) = b) (A B : Option Addr) (c d : Nat) (w : World) (h1 : Sl w w.heap.size A (xs.map byteV)) (h2 : Sl w w.heap.size B (ys.map byteV)) (n1 : n ≤ 1000000) (n2 : m ≤ 1000000) :
    Calls Tryd.prog 12 #[.slice A n c, .slice B m d] w fun e w' => e = .returned (.bool b) ∧ Below w.heap.size w w' := by
  subst hn hm hb
  exact sameB_any xs ys A B c d w h1 h2 n1 n2
def sfE : Sf := ⟨1, 1, 1, [], []⟩
theorem mfE : MayF sfE := mayF_of (by decide +kernel)
theorem shE : shL sfE = [0, 0, 1, 0, 0, 1, 0, 0, 1, 0, 0] := by decide +kernel
theorem szE : (cond (mayS sfE) (shL sfE) []).length = 11 := by decide +kernel
theorem noE : okR [] = false := by decide +kernel
theorem ShR.one (w : World) : ShR w w.heap.size (.agg #[.int .i64 1, .int .i64 1, .int .i64 1, .slice none 0 0, .slice none 0 0]) sfE := ⟨none, 0, none, 0, rfl, Or.inl rfl, ⟨[], rfl, Or.inl rfl, fun k n e h => by simp [sfE] at h⟩, by decide, by decide, by decide, by decide⟩
theorem lit_11 (w : World) {g : Nat} (hg : g = w.heap.size) : Sl (w.alloc (.cells #[.int .u8 0, .int .u8 0, .int .u8 1, .int .u8 0, .int .u8 0, .int .u8 1, .int .u8 0, .int .u8 0, .int .u8 1, .int .u8 0, .int .u8 0] 5)) (w.alloc (.cells #[.int .u8 0, .int .u8 0, .int .u8 1, .int .u8 0, .int .u8 0, .int .u8 1, .int .u8 0, .int .u8 0, .int .u8 1, .int .u8 0, .int .u8 0] 5)).heap.size (some ⟨g, 0, none⟩) (([0, 0, 1, 0, 0, 1, 0, 0, 1, 0, 0] : List Nat).map byteV) := by
  subst hg
  refine Or.inr ⟨w.heap.size, 0, rfl, by simp, fun j u hu => ?_⟩
  rw [Joins.cell_of_block (heap_alloc_new w _), Nat.zero_add]
  simpa [byteV] using hu
theorem layE (w : World) (hT : Tabs w) : Calls Tryd.prog 10 #[.agg #[.int .i64 1, .int .i64 1, .int .i64 1, .slice none 0 0, .slice none 0 0]] w fun e' w' => ∃ A c, e' = .returned (.tuple #[.slice A 11 c, .int .i64 0]) ∧ Sl w' w'.heap.size A (([0, 0, 1, 0, 0, 1, 0, 0, 1, 0, 0] : List Nat).map byteV) ∧ 11 ≤ c ∧ c ≤ maxLen ∧ (A = none → c = 0) ∧ Below w.heap.size w w' := by
  refine (lay_yes sfE _ w (ShR.one w) hT mfE).mono ?_
  rintro e' w' ⟨v', rfl, hr, hb⟩
  rw [shE] at hr
  obtain ⟨A, c, rfl, h1, h2, h3, h4⟩ := hr.arg
  exact ⟨A, c, rfl, h1, h2, h3, h4, hb⟩
theorem readE (A : Option Addr) (c : Nat) (w : World) (h : Sl w w.heap.size A (([0, 0, 1, 0, 0, 1, 0, 0, 1, 0, 0] : List Nat).map byteV)) (hc : 11 ≤ c) (hcm : c ≤ maxLen) (hA : A = none → c = 0) (hT : Tabs w) :
    Calls Tryd.prog 18 #[.slice A 11 c] w fun e' w' => ∃ Ab cb An cn, e' = .returned (.tuple #[.agg #[.int .i64 1, .int .i64 1, .int .i64 1, .slice Ab 0 cb, .slice An 0 cn], .int .i64 0]) ∧ ShR w' w'.heap.size (.agg #[.int .i64 1, .int .i64 1, .int .i64 1, .slice Ab 0 cb, .slice An 0 cn]) sfE ∧ Below w.heap.size w w' := by
  refine (read_yes sfE mfE 11 A c w (by rw [shE]; rfl) (by rw [shE]; exact h) hc hcm (by decide) hA hT).mono ?_
  rintro e' w' ⟨v', rfl, hS, hb⟩
  have hR := hS.toR
  obtain ⟨Ab, cb, An, cn, rfl, -⟩ := hS.parts
  exact ⟨Ab, cb, An, cn, rfl, hR, hb⟩
theorem readN (w : World) (hT : Tabs w) : Calls Tryd.prog 18 #[.slice none 0 0] w fun e' w' => ∃ Ab cb An cn, e' = .returned (.tuple #[.agg #[.int .i64 0, .int .i64 0, .int .i64 0, .slice Ab 0 cb, .slice An 0 cn], .int .i64 5]) ∧ Below w.heap.size w w' := by
  refine (read_no [] noE 0 none 0 w rfl (Or.inl rfl) (fun x hx => by simp at hx) (Nat.le_refl _) (Nat.zero_le _) (by decide) (fun _ => rfl) hT).mono ?_
  rintro e' w' ⟨v', rfl, hS, hb⟩
  obtain ⟨Ab, cb, An, cn, rfl, -⟩ := hS.parts
  exact ⟨Ab, cb, An, cn, rfl, hb⟩
theorem awakeC_any (w : World) (hT : Tabs w) :
    Calls Tryd.prog 9 #[] w fun e' w' => e' = .returned (.bool true) ∧ Below w.heap.size w w' := by
  have HB : Below w.heap.size w w := Below.refl _ _
  have HT := hT
  clear hT
  have B1 : Blk (w.alloc (.cells #[.int .i64 1, .int .i64 1, .int .i64 1, .slice none 0 0, .slice none 0 0] 25)) w.heap.size 25 #[.int .i64 1, .int .i64 1, .int .i64 1, .slice none 0 0, .slice none 0 0] := Blk.new_ _ _ _
  have bx : Below w.heap.size w (w.alloc (.cells #[.int .i64 1, .int .i64 1, .int .i64 1, .slice none 0 0, .slice none 0 0] 25)) := (Below.refl _ _).alloc (Nat.le_refl _) _
  replace HB := HB.trans bx
  replace HT := HT.next bx
  clear bx
  obtain ⟨k0, k1, k2, k3, k4⟩ := cell5 B1
  go_enter Tryd.func9, Tryd.ntmps9
  go_wp2_with (first | (go_at_call 10; ((with_reducible refine (layE _ HT).mono ?_); rintro e' w1 ⟨A1, c1, rfl, hs, j1, j2, j3, bx⟩; have HT := HT.next bx; have HB := btr HB HB.size bx; have B1 := B1.below bx B1.lt; clear bx; (try clear k0 k1 k2 k3 k4); obtain ⟨k0, k1, k2, k3, k4⟩ := cell5 B1)) | (go_at_call 18; ((with_reducible refine (readE A1 c1 _ hs j1 j2 j3 HT).mono ?_); rintro e' w2 ⟨Ab, cb, An, cn, rfl, hR, bx⟩; have B2 : Blk (w2.alloc (.cells #[.int .i64 1, .int .i64 1, .int .i64 1, .slice Ab 0 cb, .slice An 0 cn] 25)) w2.heap.size 25 #[.int .i64 1, .int .i64 1, .int .i64 1, .slice Ab 0 cb, .slice An 0 cn] := Blk.new_ _ _ _; have hs := (hs.below bx).mono bx.size; have HT := HT.next bx; have HB := btr HB HB.size bx; have B1 := B1.below bx B1.lt; clear bx; have bx : Below w2.heap.size w2 (w2.alloc (.cells #[.int .i64 1, .int .i64 1, .int .i64 1, .slice Ab 0 cb, .slice An 0 cn] 25)) := (Below.refl _ _).alloc (Nat.le_refl _) _; have hs := (hs.below bx).mono bx.size; have HT := HT.next bx; have HB := btr HB HB.size bx; have B1 := B1.below bx B1.lt; have hR := hR.next bx; clear bx; (try clear k0 k1 k2 k3 k4); obtain ⟨k0, k1, k2, k3, k4⟩ := cell5 B1)) | (go_at_call 18; ((with_reducible refine (readN _ HT).mono ?_); rintro e' w3 ⟨Ac, cc, Ad, cd, rfl, bx⟩; have hs := (hs.below bx).mono bx.size; have HT := HT.next bx; have HB := btr HB HB.size bx; have B1 := B1.below bx B1.lt; have B2 := B2.below bx B2.lt; have hR := hR.next bx; clear bx; have bx : Below w3.heap.size w3 (w3.alloc (.cells #[.int .i64 0, .int .i64 0, .int .i64 0, .slice Ac 0 cc, .slice Ad 0 cd] 25)) := (Below.refl _ _).alloc (Nat.le_refl _) _; have hs := (hs.below bx).mono bx.size; have HT := HT.next bx; have HB := btr HB HB.size bx; have B1 := B1.below bx B1.lt; have B2 := B2.below bx B2.lt; have hR := hR.next bx; clear bx; have hl := lit_11 (w3.alloc (.cells #[.int .i64 0, .int .i64 0, .int .i64 0, .slice Ac 0 cc, .slice Ad 0 cd] 25)) (g := w3.heap.size + 1) (by simp); have bx : Below (w3.alloc (.cells #[.int .i64 0, .int .i64 0, .int .i64 0, .slice Ac 0 cc, .slice Ad 0 cd] 25)).heap.size (w3.alloc (.cells #[.int .i64 0, .int .i64 0, .int .i64 0, .slice Ac 0 cc, .slice Ad 0 cd] 25)) ((w3.alloc (.cells #[.int .i64 0, .int .i64 0, .int .i64 0, .slice Ac 0 cc, .slice Ad 0 cd] 25)).alloc (.cells #[.int .u8 0, .int .u8 0, .int .u8 1, .int .u8 0, .int .u8 0, .int .u8 1, .int .u8 0, .int .u8 0, .int .u8 1, .int .u8 0, .int .u8 0] 5)) := (Below.refl _ _).alloc (Nat.le_refl _) _; have hs := (hs.below bx).mono bx.size; have HT := HT.next bx; have HB := btr HB HB.size bx; have B1 := B1.below bx B1.lt; have B2 := B2.below bx B2.lt; have hR := hR.next bx; clear bx; (try clear k0 k1 k2 k3 k4); obtain ⟨k0, k1, k2, k3, k4⟩ := cell5 B1; obtain ⟨q0, q1, q2, q3, q4⟩ := cell5 B2)) | (go_at_call 12; ((with_reducible refine (sameB_b true _ _ 11 11 rfl rfl (by decide) _ _ _ _ _ hs hl (by decide) (by decide)).mono ?_); rintro e' w4 ⟨rfl, bx⟩; clear hs hl; have HT := HT.next bx; have HB := btr HB HB.size bx; have B1 := B1.below bx B1.lt; have B2 := B2.below bx B2.lt; have hR := hR.next bx; clear bx; (try clear k0 k1 k2 k3 k4 q0 q1 q2 q3 q4); obtain ⟨k0, k1, k2, k3, k4⟩ := cell5 B1; obtain ⟨q0, q1, q2, q3, q4⟩ := cell5 B2)) | (go_at_call 21; ((with_reducible refine (sameShelf_yes sfE _ _ _ hR (ShR.one _) (by decide) (by decide) (by intro n hn; simp [sfE] at hn)).mono ?_); rintro e' w5 ⟨rfl, bx⟩; have HT := HT.next bx; have HB := btr HB HB.size bx; have B1 := B1.below bx B1.lt; have B2 := B2.below bx B2.lt; have hR := hR.next bx; clear bx; (try clear k0 k1 k2 k3 k4 q0 q1 q2 q3 q4); obtain ⟨k0, k1, k2, k3, k4⟩ := cell5 B1; obtain ⟨q0, q1, q2, q3, q4⟩ := cell5 B2)) | (go_at_call 14; ((with_reducible refine (size_any sfE _ _ (ShR.one _) HT 11 szE).mono ?_); rintro e' w6 ⟨rfl, bx⟩; have HB := btr HB HB.size bx; clear bx)))
  go_ret
  exact ⟨rfl, HB⟩
end Go.Proofs.YtllnfociddodcaaDoor
