/- A law's frame: a walk that returns true and leaves all that was there as it was is all that a law's statement wants. -/
import Derived.Test.YteokeghenjobaaaGreatDoorRows
import Derived.WalkKit
import Derived.ProofKit
import Derived.OpenShut
import Derived.SizedLaws
import Derived.Lib.SmallJoins
import Derived.Lib.ValidU
import Derived.Lib.TrimUEq
import Derived.Lib.RuneCount
import Derived.Test.YteokeghenjobaaaGreatDoorChecked
import Derived.WalkSpells
import Derived.WalkLawsBesides
import Derived.Lib.Hide
import Derived.IntWalk
import Derived.Outline
import Derived.Deep.QuietTactic
import Derived.BigQuiet
import Derived.Deep.Light
import Derived.Laws.AppendOwn
import Derived.Deep.Fields
import Derived.Deep.Slices
import Derived.ChangeSame
import Derived.ChangeArms
import Derived.Maps.AppendAt
import Derived.Deep.AppendLies
import Derived.RegionTactic
import Derived.OwnWalk
import Derived.Laws.OwnMore
import Derived.Deep.RegionHeld3
import Derived.Deep.DrawnRows
import Derived.Laws.CopyOwn
import Derived.RangeFuncBox
import Derived.RangeFuncLeaves
import Derived.RangeFuncWrites
import Derived.RangeFuncCalls
import Derived.RangeFuncBound
import Derived.Shelf.Abstract
import Derived.OwnWalkIn
import Derived.TacticsInMore
import Derived.LoopNIn
import Derived.LoopIn
import Derived.Shelf.Unicode.ValidAny
import Derived.Shelf.Strings.Prefix
import Derived.Shelf.Strings.Search3
import Derived.Shelf.SlLaysF0
import Derived.Shelf.Sort.Plain
import Derived.Shelf.Slices.CompactS
import Derived.Shelf.Slices.Turned
import Derived.Ground.NamesProg
import Derived.Ground.SlsfProg
import Derived.Test.YteokeghenjobaaaGreatDoorProg
import Derived.Laws.RangeAny
import Derived.Deep.DeepCutAuto
import Derived.Shelf.Unicode.DecodeSlow
set_option linter.unusedSimpArgs false
set_option linter.unusedVariables false
set_option maxRecDepth 100000
set_option maxHeartbeats 16000000
namespace Go.Proofs.YteokeghenjobaaaGreatDoor
open Go.ChangeShapes Go.WideShapes Go.ChangeAt Go.RowKit
theorem Tryz.own : ownKnob Tryz.prog.godebug = none := by kernel_rfl
theorem Tryz.laidOut : laidOutB Tryz.prog = true := by kernel_rfl
theorem trodAll_below {H : Type} {enc : TypeId × Value → H} {P : Program} (hl : laidOutB P = true) {W W' : World} (hb : Below W.heap.size W W') :
    ∀ (ts : List TypeId) (vs : List Value) (ds : List (DataW H)) (ps : List MemPlace), (ts.all fun t => P.readableRec t && decide (t < P.types.size)) = true →
      (∀ x ∈ ps, x.block < W.heap.size) → DataW.TrodAll enc P W 0 (fun _ => true) true ts vs ds ps → DataW.TrodAll enc P W' 0 (fun b => decide (b < W.heap.size)) true ts vs ds ps
  | [], [], [], _, _, _, h => h
  | t :: ts, v :: vs, d :: ds, ps, ht, hlt, h => by
    obtain ⟨p, q, h1, h2, rfl⟩ := h
    simp only [List.all_cons, Bool.and_eq_true, decide_eq_true_eq] at ht
    exact ⟨p, q, Below.trod hl ht.1.1 ht.1.2 h1 hb (fun x hx => hlt x (by simp [hx])), trodAll_below hl hb ts vs ds q ht.2 (fun x hx => hlt x (by simp [hx])) h2, rfl⟩
  | [], _ :: _, _, _, _, _, h => by cases h
  | [], [], _ :: _, _, _, _, h => by cases h
  | _ :: _, [], _, _, _, _, h => by cases h
  | _ :: _, _ :: _, [], _, _, _, h => by cases h
theorem trodAll_length {H : Type} {enc : TypeId × Value → H} {P : Program} {W : World} {base : Nat} {sp : Nat → Bool} {held : Bool} :
    ∀ (ts : List TypeId) (vs : List Value) (ds : List (DataW H)) (ps : List MemPlace), DataW.TrodAll enc P W base sp held ts vs ds ps → ds.length = ts.length ∧ vs.length = ts.length
  | [], [], [], _, _ => ⟨rfl, rfl⟩
  | _ :: ts, _ :: vs, _ :: ds, _, h => by
    obtain ⟨p, q, _, h2, _⟩ := h
    obtain ⟨a, b⟩ := trodAll_length ts vs ds q h2
    exact ⟨by simp [a], by simp [b]⟩
  | [], _ :: _, _, _, h => by cases h
  | [], [], _ :: _, _, h => by cases h
  | _ :: _, [], _, _, h => by cases h
  | _ :: _, _ :: _, [], _, h => by cases h
def LawSpec (s : ChangeSpec) (n : Nat) : Prop := s.vars = [] ∧ ∀ (H : Type) (ds : List (DataW H)), ds.length = n → (s.fn H (ds ++ [])).results = [.lit (.bool true)] ∧ (s.fn H (ds ++ [])).args = ds ∧ (s.fn H (ds ++ [])).vars = []
theorem post_of_walk {H : Type} {enc : TypeId × Value → H} {fn : Func} {s : ChangeSpec} (hs : LawSpec s fn.params.size) {tb : TypeId} (hres : fn.resultTypes = #[tb]) (htb : Tryz.prog.underlying tb = some .bool)
    (hts : (fn.params.toList.all fun t => Tryz.prog.readableRec t && decide (t < Tryz.prog.types.size)) = true)
    {W W' : World} {args : Array Value} {ds gs : List (DataW H)} {before : List MemPlace} (hW : DataW.Whole enc Tryz.prog fn.params.toList s.vars false W args.toList ds gs before) (hb : Below W.heap.size W W') :
    s.post enc Tryz.prog fn false true false false W args (.bool true) W' := by
  have hW' := hW
  obtain ⟨p, q, hA, hV, rfl, _, _⟩ := hW
  rw [hs.1] at hV
  obtain ⟨rfl, rfl⟩ := trodVars_none hV
  obtain ⟨hn, _⟩ := trodAll_length _ _ _ _ hA
  obtain ⟨e1, e2, e3⟩ := hs.2 H ds (by rw [hn]; simp)
  have hlt : ∀ x ∈ p, x.block < W.heap.size := fun x hx => hW'.lt x (by simp [hx])
  refine ⟨ds, [], p ++ [], [], p, [], hW', ?_, ?_, ?_, ?_, fun h => by cases h⟩
  · rw [e1, hres]
    exact trodAll_mk1 (shut_bool htb true)
  · rw [e2]
    exact trodAll_below Tryz.laidOut hb _ _ _ _ hts hlt hA
  · rw [e3, hs.1]
    rfl
  · exact hb.frame _
end Go.Proofs.YteokeghenjobaaaGreatDoor
namespace Go.Proofs.YteokeghenjobaaaGreatDoor
open Go.Lib
def btL (l : List UInt8) (i : Nat) : Nat := (l.getD i 0).toNat
def decL (l : List UInt8) (i : Nat) : Nat × Nat := decodeN (l.length - i) (btL l i) (btL l (i + 1)) (btL l (i + 2)) (btL l (i + 3))
theorem bt_lt (l : List UInt8) (i : Nat) : btL l i < 256 := UInt8.toNat_lt _
theorem get_L (s : ByteArray) (i : Nat) : s.get! i = s.data.toList.getD i 0 := by
  cases s with
  | mk d =>
    show d[i]! = _
    rw [Array.getElem!_eq_getD, List.getD_eq_getElem?_getD, Array.getD_eq_getD_getElem?]
    simp
    rfl
theorem size_L (s : ByteArray) : s.size = s.data.toList.length := by cases s; simp [ByteArray.size]
theorem decode_L (s : ByteArray) (i : Nat) : Utf8.decode s i = decL s.data.toList i := by
  rw [decode_at, get_L, get_L, get_L, get_L, size_L]
  rfl
def Runed (n b0 b1 b2 b3 r w : Nat) : Prop :=
  (b0 < 128 ∧ r = b0 ∧ w = 1) ∨
  (b0 / 32 = 6 ∧ 1 < n ∧ b1 / 64 = 2 ∧ r = b0 % 32 * 64 + b1 % 64 ∧ 128 ≤ r ∧ w = 2) ∨
  (b0 / 16 = 14 ∧ 2 < n ∧ b1 / 64 = 2 ∧ b2 / 64 = 2 ∧ r = b0 % 16 * 4096 + b1 % 64 * 64 + b2 % 64 ∧ 2048 ≤ r ∧ (r < 55296 ∨ (57344 ≤ r ∧ r ≤ 1114111)) ∧ w = 3) ∨
  (b0 / 8 = 30 ∧ 3 < n ∧ b1 / 64 = 2 ∧ b2 / 64 = 2 ∧ b3 / 64 = 2 ∧ r = b0 % 8 * 262144 + b1 % 64 * 4096 + b2 % 64 * 64 + b3 % 64 ∧ 65536 ≤ r ∧ (r < 55296 ∨ (57344 ≤ r ∧ r ≤ 1114111)) ∧ w = 4)
theorem runed_of {n b0 b1 b2 b3 : Nat} (h : decodeN n b0 b1 b2 b3 ≠ (65533, 1)) : Runed n b0 b1 b2 b3 (decodeN n b0 b1 b2 b3).1 (decodeN n b0 b1 b2 b3).2 := by
  unfold decodeN at h ⊢
  unfold Runed
  repeat' split at h
  all_goals first
    | (exfalso; exact h rfl)
    | skip
  · exact Or.inl ⟨by assumption, by rw [if_pos (by assumption)], by rw [if_pos (by assumption)]⟩
  · rename_i h1 h2 h3
    rw [if_neg h1, if_pos h2, if_pos h3]
    exact Or.inr (Or.inl ⟨h2.1, h2.2.1, h2.2.2, rfl, h3, rfl⟩)
  · rename_i h1 h2 h3 h4
    rw [if_neg h1, if_neg h2, if_pos h3, if_pos h4]
    exact Or.inr (Or.inr (Or.inl ⟨h3.1, h3.2.2.1, h3.2.1.2, h3.2.2.2, rfl, h4.1, h4.2, rfl⟩))
  · rename_i h1 h2 h3 h4 h5
    rw [if_neg h1, if_neg h2, if_neg h3, if_pos h4, if_pos h5]
    exact Or.inr (Or.inr (Or.inr ⟨h4.1, h4.2.2.2.1, h4.2.1.2, h4.2.2.1.2, h4.2.2.2.2, rfl, h5.1, h5.2, rfl⟩))
theorem of_runed {n b0 b1 b2 b3 r w : Nat} (h : Runed n b0 b1 b2 b3 r w) : decodeN n b0 b1 b2 b3 = (r, w) := by
  rcases h with ⟨h1, rfl, rfl⟩ | ⟨h1, h2, h3, rfl, h4, rfl⟩ | ⟨h1, h2, h3, h4, rfl, h5, h6, rfl⟩ | ⟨h1, h2, h3, h4, h5, rfl, h6, h7, rfl⟩
  · unfold decodeN
    rw [if_pos h1]
  · unfold decodeN
    rw [if_neg (by omega), if_pos ⟨h1, h2, h3⟩, if_pos h4]
  · unfold decodeN
    rw [if_neg (by omega), if_neg (by omega), if_pos ⟨h1, ⟨by omega, h3⟩, h2, h4⟩, if_pos ⟨h5, h6⟩]
  · unfold decodeN
    rw [if_neg (by omega), if_neg (by omega), if_neg (by omega), if_pos ⟨h1, ⟨by omega, h3⟩, ⟨by omega, h4⟩, h2, h5⟩, if_pos ⟨h6, h7⟩]
theorem runed_w {n b0 b1 b2 b3 r w : Nat} (h : Runed n b0 b1 b2 b3 r w) (hn : 1 ≤ n) : 1 ≤ w ∧ w ≤ n ∧ w ≤ 4 ∧ (r, w) ≠ (65533, 1) := by
  unfold Runed at h
  refine ⟨by omega, by omega, by omega, fun he => ?_⟩
  simp only [Prod.mk.injEq] at he
  omega
def badL (l : List UInt8) (i : Nat) : Bool := decide (decL l i = (65533, 1))
theorem good_of {l : List UInt8} {i : Nat} (h : badL l i = false) : Runed (l.length - i) (btL l i) (btL l (i + 1)) (btL l (i + 2)) (btL l (i + 3)) (decL l i).1 (decL l i).2 :=
  runed_of (of_decide_eq_false h)
theorem of_good {l : List UInt8} {i r w : Nat} (hi : i < l.length) (h : Runed (l.length - i) (btL l i) (btL l (i + 1)) (btL l (i + 2)) (btL l (i + 3)) r w) : decL l i = (r, w) ∧ badL l i = false := by
  have h1 : decL l i = (r, w) := of_runed h
  have h2 := (runed_w h (by omega)).2.2.2
  refine ⟨h1, ?_⟩
  unfold badL
  rw [decide_eq_false_iff_not, h1]
  exact h2
def okFrom (l : List UInt8) : Nat → Nat → Bool
  | 0, _ => true
  | f + 1, p => if p < l.length then (if badL l p = true then false else okFrom l f (p + (decL l p).2)) else true
def mayR (r : Nat) : Bool := !(decide (r < 32) || (decide (127 ≤ r) && decide (r ≤ 159))) && !(r == 47)
def mayFrom (l : List UInt8) : Nat → Nat → Bool
  | 0, _ => true
  | f + 1, p => if p < l.length then (if badL l p = true then false else if mayR (decL l p).1 = true then mayFrom l f (p + (decL l p).2) else false) else true
def allFrom (l : List UInt8) : Nat → Nat → Bool
  | 0, _ => true
  | f + 1, p => if p < l.length then (if mayR (decL l p).1 = true then allFrom l f (p + (decL l p).2) else false) else true
def cntFrom (l : List UInt8) : Nat → Nat → Nat
  | 0, _ => 0
  | f + 1, p => if p < l.length then 1 + cntFrom l f (p + (decL l p).2) else 0
theorem valid_from (l : List UInt8) : ∀ f p, validGoD f (l.drop p) = okFrom l f p
  | 0, _ => rfl
  | f + 1, p => by
    have hd : decodeL (l.drop p) = decL l p := by
      have := decodeL_drop ⟨l.toArray⟩ p
      rw [decode_L] at this
      simpa using this
    unfold validGoD okFrom
    rw [hd, List.drop_drop, valid_from l f]
    by_cases hp : p < l.length
    · rw [if_pos hp, if_neg (by intro h; have := congrArg List.length h; simp at this; omega)]
      have : ((decL l p).1 = 65533 ∧ (decL l p).2 = 1) ↔ badL l p = true := by
        unfold badL
        rw [decide_eq_true_eq, Prod.ext_iff]
      by_cases hb : badL l p = true
      · rw [if_pos hb, if_pos (this.2 hb)]
      · rw [if_neg hb, if_neg (fun h => hb (this.1 h))]
    · rw [if_neg hp, if_pos (List.drop_eq_nil_of_le (by omega))]
def validL (l : List UInt8) : Bool := okFrom l l.length 0
theorem valid_L (l : List UInt8) : validD l = validL l := by
  have := valid_from l l.length 0
  simpa [validD, validL] using this
def cntL (l : List UInt8) : Nat := cntFrom l l.length 0
theorem may_split (l : List UInt8) : ∀ f p, mayFrom l f p = (okFrom l f p && allFrom l f p)
  | 0, _ => rfl
  | f + 1, p => by
    unfold mayFrom okFrom allFrom
    rw [may_split l f]
    by_cases hp : p < l.length
    · rw [if_pos hp, if_pos hp, if_pos hp]
      by_cases hb : badL l p = true
      · rw [if_pos hb, if_pos hb]
        rfl
      · rw [if_neg hb, if_neg hb]
        by_cases hm : mayR (decL l p).1 = true
        · rw [if_pos hm, if_pos hm]
        · rw [if_neg hm, if_neg hm]
          simp
    · rw [if_neg hp, if_neg hp, if_neg hp]
      rfl
def nameB (l : List UInt8) : Bool := decide (1 ≤ l.length) && (decide (l.length ≤ 20) && (!(btL l 0 == 32) && (!(btL l (l.length - 1) == 32) && mayFrom l l.length 0)))
theorem name_iff {l : List UInt8} : nameB l = true ↔ 1 ≤ l.length ∧ l.length ≤ 20 ∧ btL l 0 ≠ 32 ∧ btL l (l.length - 1) ≠ 32 ∧ mayFrom l l.length 0 = true := by
  unfold nameB
  simp [Bool.and_eq_true]
theorem bt_back (a t : List UInt8) (i : Nat) : btL (a ++ t) (a.length + i) = btL t i := by
  unfold btL
  rw [List.getD_eq_getElem?_getD, List.getElem?_append_right (by omega), Nat.add_sub_cancel_left, ← List.getD_eq_getElem?_getD]
end Go.Proofs.YteokeghenjobaaaGreatDoor
namespace Go.Proofs.YteokeghenjobaaaGreatDoor
open Go.ChangeShapes Go.WideShapes Go.ChangeAt Go.RowKit
structure Bk where
  id : Int
  nm : ByteArray
structure Nt where
  id : Int
  bk : Int
  nm : ByteArray
  tg : List ByteArray
  sh : List Int
structure Sf where
  nb : Int
  nn : Int
  ns : Int
  bs : List Bk
  ts : List Nt
def mayN (s : ByteArray) : Bool := nameB s.data.toList
def sameS (a b : ByteArray) : Bool := a.toList == b.toList
def lessS (a b : ByteArray) : Bool := Op.bytesLess a.toList b.toList
def inI (x lo hi : Int) : Bool := decide (lo ≤ x) && decide (x ≤ hi)
def idxP {α : Type} (p : α → Bool) (l : List α) : Int := match l.findIdx? p with
  | some i => (i : Int)
  | none => -1
def bookAt (s : Sf) (id : Int) : Int := idxP (fun b : Bk => b.id == id) s.bs
def noteAt (s : Sf) (id : Int) : Int := idxP (fun n : Nt => n.id == id) s.ts
def bookTk (s : Sf) (nm : ByteArray) (but : Int) : Bool := s.bs.any fun b => sameS b.nm nm && b.id != but
def noteTk (s : Sf) (bk : Int) (nm : ByteArray) (but : Int) : Bool := s.ts.any fun n => n.bk == bk && (sameS n.nm nm && n.id != but)
def booksFrom (s : Sf) : Int → List Bk → Bool
  | _, [] => true
  | before, b :: l => inI b.id (before + 1) (s.nb - 1) && (mayN b.nm && (!bookTk s b.nm b.id && booksFrom s b.id l))
def tagsFrom : List ByteArray → List ByteArray → Bool
  | _, [] => true
  | prev, t :: l => mayN t && ((match prev with | [] => true | p :: _ => lessS p t) && tagsFrom [t] l)
def mayTg (l : List ByteArray) : Bool := decide (l.length ≤ 4) && tagsFrom [] l
def mayNt (s : Sf) (n : Nt) : Bool := mayN n.nm && (decide (0 ≤ bookAt s n.bk) && (!noteTk s n.bk n.nm n.id && mayTg n.tg))
def notesFrom (s : Sf) : Int → List Nt → Bool
  | _, [] => true
  | before, n :: l => inI n.id (before + 1) (s.nn - 1) && (mayNt s n && notesFrom s n.id l)
def sheetsIn (ns : Int) : List Int → List Int → Bool
  | _, [] => true
  | seen, x :: l => inI x 1 (ns - 1) && (!seen.contains x && sheetsIn ns (x :: seen) l)
def sheetsFrom (ns : Int) : List Int → List Nt → Bool
  | _, [] => true
  | seen, n :: l => decide (n.sh.length ≤ 8) && (sheetsIn ns seen n.sh && sheetsFrom ns (n.sh.reverse ++ seen) l)
def mayS (s : Sf) : Bool := inI s.nb 1 65536 && (inI s.nn 1 65536 && (inI s.ns 1 4096 && ((decide (s.bs.length ≤ 6) && booksFrom s 0 s.bs) && ((decide (s.ts.length ≤ 12) && notesFrom s 0 s.ts) && sheetsFrom s.ns [] s.ts))))
end Go.Proofs.YteokeghenjobaaaGreatDoor
namespace Go.Proofs.YteokeghenjobaaaGreatDoor
open Go.ChangeShapes Go.WideShapes Go.ChangeAt Go.RowKit
def splitL : List UInt8 → List (List UInt8)
  | [] => [[]]
  | x :: l => if x = 32 then [] :: splitL l else match splitL l with
    | [] => [[x]]
    | y :: r => (x :: y) :: r
theorem splitL_ne (l : List UInt8) : splitL l ≠ [] := by
  cases l with
  | nil => simp [splitL]
  | cons x l =>
    unfold splitL
    split
    · simp
    · split <;> simp
def bOf (l : List UInt8) : ByteArray := ⟨l.toArray⟩
theorem splitL_no {l : List UInt8} (h : ∀ x ∈ l, x ≠ 32) : splitL l = [l] := by
  induction l with
  | nil => rfl
  | cons x l ih =>
    have hx := h x (by simp)
    have hl := ih (fun y hy => h y (by simp [hy]))
    unfold splitL
    rw [if_neg hx, hl]
theorem splitL_at {a l : List UInt8} (h : ∀ x ∈ a, x ≠ 32) : splitL (a ++ 32 :: l) = a :: splitL l := by
  induction a with
  | nil => simp [splitL]
  | cons x a ih =>
    have hx := h x (by simp)
    have hl := ih (fun y hy => h y (by simp [hy]))
    rw [List.cons_append]
    conv => lhs; unfold splitL
    rw [if_neg hx, hl]
theorem splitL_len (l : List UInt8) : (splitL l).length ≤ l.length + 1 := by
  induction l with
  | nil => simp [splitL]
  | cons x l ih =>
    unfold splitL
    split
    · simp; omega
    · split
      · simp
      · rename_i y r hy
        rw [hy] at ih
        simp at ih ⊢
        omega
end Go.Proofs.YteokeghenjobaaaGreatDoor
namespace Go.Proofs.YteokeghenjobaaaGreatDoor
open Go.ChangeShapes Go.WideShapes Go.ChangeAt Go.RowKit
structure Trm where
  tn : Bool
  sg : UInt8
  tx : List UInt8
deriving Inhabited
def textP (tn : Bool) (m : UInt8) (p : List UInt8) : Option Trm := if p.isEmpty then none else some ⟨tn, m, p⟩
def markP (tn : Bool) : List UInt8 → Option Trm
  | x :: r => if x = 35 ∨ x = 47 then textP tn x r else textP tn 0 (x :: r)
  | [] => textP tn 0 []
def trmL : List UInt8 → Option Trm
  | x :: r => if x = 33 then (if r.head? = some 33 then none else markP true r) else markP false (x :: r)
  | [] => markP false []
def trmsL : List (List UInt8) → Option (List Trm)
  | [] => some []
  | p :: l => (trmL p).bind fun t => (trmsL l).map (t :: ·)
def headP (l : List UInt8) : List UInt8 := (splitL l).headD []
def tailP (l : List UInt8) : List (List UInt8) := (splitL l).tail
theorem split_ht (l : List UInt8) : splitL l = headP l :: tailP l := by
  unfold headP tailP
  cases h : splitL l with
  | nil => exact absurd h (splitL_ne l)
  | cons a b => rfl
theorem head_cons {x : UInt8} {l : List UInt8} (h : x ≠ 32) : headP (x :: l) = x :: headP l ∧ tailP (x :: l) = tailP l := by
  have h1 := split_ht l
  unfold headP tailP
  conv => lhs; lhs; unfold splitL
  conv => rhs; lhs; unfold splitL
  rw [if_neg h, h1]
  exact ⟨rfl, rfl⟩
theorem head_nil : headP [] = [] ∧ tailP [] = [] := ⟨rfl, rfl⟩
theorem head_blank (l : List UInt8) : headP (32 :: l) = [] ∧ tailP (32 :: l) = splitL l := ⟨rfl, rfl⟩
theorem head_head (l : List UInt8) (x : UInt8) (hx : x ≠ 32) : (headP l).head? = some x ↔ l.head? = some x := by
  cases l with
  | nil => simp [head_nil.1]
  | cons y l =>
    by_cases hy : y = 32
    · subst hy
      rw [(head_blank l).1]
      simp
      exact fun e => hx e.symm
    · rw [(head_cons hy).1]
      simp
def comb (f : List UInt8 → Option Trm) (l : List UInt8) : Option (List Trm) := (f (headP l)).bind fun t => (trmsL (tailP l)).map (t :: ·)
theorem comb_split (l : List UInt8) : trmsL (splitL l) = comb trmL l := by
  rw [split_ht]
  rfl
def readL (q : List UInt8) : Option (List Trm) := if 200 < q.length then none else if q.isEmpty then some [] else comb trmL q
theorem trmL_cons (x : UInt8) (r : List UInt8) : trmL (x :: r) = if x = 33 then (if r.head? = some 33 then none else markP true r) else markP false (x :: r) := rfl
theorem markP_cons (tn : Bool) (x : UInt8) (r : List UInt8) : markP tn (x :: r) = if x = 35 ∨ x = 47 then textP tn x r else textP tn 0 (x :: r) := rfl
theorem comb_turn2 (l : List UInt8) : comb trmL (33 :: 33 :: l) = none := by
  unfold comb
  rw [(head_cons (by decide)).1, (head_cons (by decide)).1]
  rfl
theorem comb_turn {l : List UInt8} (h : l.head? ≠ some 33) : comb trmL (33 :: l) = comb (markP true) l := by
  unfold comb
  rw [(head_cons (by decide)).1, (head_cons (by decide)).2]
  rw [trmL_cons, if_pos rfl, if_neg (fun e => h ((head_head l 33 (by decide)).1 e))]
theorem comb_plain {l : List UInt8} (h : l.head? ≠ some 33) : comb trmL l = comb (markP false) l := by
  unfold comb
  have h2 : (headP l).head? ≠ some 33 := fun e => h ((head_head l 33 (by decide)).1 e)
  cases hp : headP l with
  | nil => rfl
  | cons x r =>
    rw [hp] at h2
    rw [trmL_cons, if_neg (fun (e : x = 33) => h2 (by rw [e]; rfl))]
theorem comb_mark {tn : Bool} {x : UInt8} {l : List UInt8} (h : x = 35 ∨ x = 47) : comb (markP tn) (x :: l) = comb (textP tn x) l := by
  have hx : x ≠ 32 := by rcases h with rfl | rfl <;> decide
  unfold comb
  rw [(head_cons hx).1, (head_cons hx).2]
  rw [markP_cons, if_pos h]
theorem comb_nomark {tn : Bool} {l : List UInt8} (h1 : l.head? ≠ some 35) (h2 : l.head? ≠ some 47) : comb (markP tn) l = comb (textP tn 0) l := by
  unfold comb
  have h3 : (headP l).head? ≠ some 35 := fun e => h1 ((head_head l 35 (by decide)).1 e)
  have h4 : (headP l).head? ≠ some 47 := fun e => h2 ((head_head l 47 (by decide)).1 e)
  cases hp : headP l with
  | nil => rfl
  | cons x r =>
    rw [hp] at h3 h4
    rw [markP_cons, if_neg (fun (e : x = 35 ∨ x = 47) => e.elim (fun e => h3 (by rw [e]; rfl)) (fun e => h4 (by rw [e]; rfl)))]
theorem head_no {a : List UInt8} (h : ∀ x ∈ a, x ≠ 32) : headP a = a ∧ tailP a = [] := by
  unfold headP tailP
  rw [splitL_no h]
  exact ⟨rfl, rfl⟩
theorem head_at {a l : List UInt8} (h : ∀ x ∈ a, x ≠ 32) : headP (a ++ 32 :: l) = a ∧ tailP (a ++ 32 :: l) = splitL l := by
  unfold headP tailP
  rw [splitL_at h]
  exact ⟨rfl, rfl⟩
theorem comb_text_no {tn : Bool} {m : UInt8} {a : List UInt8} (h : ∀ x ∈ a, x ≠ 32) (ha : a ≠ []) : comb (textP tn m) a = some [⟨tn, m, a⟩] := by
  unfold comb textP
  rw [(head_no h).1, (head_no h).2]
  cases a with
  | nil => exact absurd rfl ha
  | cons x l => rfl
theorem comb_text_at {tn : Bool} {m : UInt8} {a l : List UInt8} (h : ∀ x ∈ a, x ≠ 32) (ha : a ≠ []) : comb (textP tn m) (a ++ 32 :: l) = (comb trmL l).map (⟨tn, m, a⟩ :: ·) := by
  conv => lhs; unfold comb textP
  rw [(head_at h).1, (head_at h).2, comb_split]
  cases a with
  | nil => exact absurd rfl ha
  | cons x l => rfl
theorem comb_text_e1 {tn : Bool} {m : UInt8} : comb (textP tn m) [] = none := rfl
theorem comb_text_e2 {tn : Bool} {m : UInt8} (l : List UInt8) : comb (textP tn m) (32 :: l) = none := rfl
theorem trmsL_len : ∀ (l : List (List UInt8)) (ts : List Trm), trmsL l = some ts → ts.length = l.length
  | [], ts, h => by
    simp [trmsL] at h
    subst h
    rfl
  | p :: l, ts, h => by
    unfold trmsL at h
    cases ht : trmL p with
    | none => rw [ht] at h; cases h
    | some t =>
      rw [ht] at h
      cases hl : trmsL l with
      | none => rw [hl] at h; cases h
      | some us =>
        rw [hl] at h
        cases h
        simp [trmsL_len l us hl]
end Go.Proofs.YteokeghenjobaaaGreatDoor
namespace Go.Proofs.YteokeghenjobaaaGreatDoor
open Go.ChangeShapes Go.WideShapes Go.ChangeAt Go.RowKit
def Sl (w : World) (B : Nat) (A : Option Addr) (vs : List Value) : Prop :=
  vs = [] ∨ ∃ b off, A = some ⟨b, off, none⟩ ∧ b < B ∧ ∀ k v, vs[k]? = some v → w.cell? ⟨b, off + k, none⟩ = some v
theorem Sl.at_ {w : World} {B : Nat} {A : Option Addr} {vs : List Value} (h : Sl w B A vs) (hn : 0 < vs.length) :
    ∃ b off, A = some ⟨b, off, none⟩ ∧ b < B ∧ ∀ k v, vs[k]? = some v → w.cell? ⟨b, off + k, none⟩ = some v := by
  rcases h with rfl | h
  · simp at hn
  · exact h
theorem Sl.below {w w' : World} {B : Nat} {A : Option Addr} {vs : List Value} (h : Sl w B A vs) (hb : Below B w w') : Sl w' B A vs := by
  rcases h with h | ⟨b, off, e, hlt, hc⟩
  · exact Or.inl h
  · exact Or.inr ⟨b, off, e, hlt, fun k v hv => (hb.cell (p := ⟨b, off + k, none⟩) hlt).trans (hc k v hv)⟩
theorem Sl.mono {w : World} {B B' : Nat} {A : Option Addr} {vs : List Value} (h : Sl w B A vs) (hB : B ≤ B') : Sl w B' A vs := by
  rcases h with h | ⟨b, off, e, hlt, hc⟩
  · exact Or.inl h
  · exact Or.inr ⟨b, off, e, by omega, hc⟩
theorem Sl.next {w w' : World} {A : Option Addr} {vs : List Value} (h : Sl w w.heap.size A vs) (hb : Below w.heap.size w w') : Sl w' w'.heap.size A vs := (h.below hb).mono hb.size
theorem Sl.alloc_ {w : World} {A : Option Addr} {vs : List Value} (h : Sl w w.heap.size A vs) (o : Obj) : Sl (w.alloc o) (w.alloc o).heap.size A vs := h.next ((Below.refl _ _).alloc (Nat.le_refl _) _)
theorem Sl.new_ (w : World) (t : TypeId) (vs : List Value) : Sl (w.alloc (.cells vs.toArray t)) (w.alloc (.cells vs.toArray t)).heap.size (some ⟨w.heap.size, 0, none⟩) vs := by
  right
  refine ⟨w.heap.size, 0, rfl, by simp, fun k v hk => ?_⟩
  rw [Joins.cell_of_block (heap_alloc_new w _)]
  simpa using hk
theorem Sl.of_own {w : World} {base : Nat} {e : TypeId} {A : Option Addr} {n c : Nat} {vs : List Value} (h : w.ownsRow base e 1 (.slice A n c) n vs) : Sl w w.heap.size A vs := by
  obtain ⟨hl, h⟩ := h
  rcases h with ⟨_, h0⟩ | ⟨g, cap, cur, hv, _, hh, hnc, _, hsz, ht⟩
  · left
    subst h0
    simpa using hl
  · have hA : A = some ⟨g, 0, none⟩ := by injection hv
    subst hA
    right
    have hlt : g < w.heap.size := by
      rcases Nat.lt_or_ge g w.heap.size with hx | hx
      · exact hx
      · rw [Array.getElem?_eq_none hx] at hh
        cases hh
    refine ⟨g, 0, rfl, hlt, fun k v hk => ?_⟩
    have hk' : k < n := by
      have := (List.getElem?_eq_some_iff.1 hk).1
      omega
    rw [← ht, List.getElem?_take_of_lt (by omega)] at hk
    rw [Joins.cell_of_block hh]
    simpa using hk
theorem btr {B : Nat} {a b c : World} (h : Below B a b) (hB : B ≤ b.heap.size) (k : Below b.heap.size b c) : Below B a c := h.trans (k.mono hB)
def Blk (w : World) (g : Nat) (t : TypeId) (cs : Array Value) : Prop := w.heap[g]? = some (.cells cs t (0, 0))
theorem Blk.cell_ {w : World} {g : Nat} {t : TypeId} {cs : Array Value} (h : Blk w g t cs) (i : Nat) : w.cell? ⟨g, i, none⟩ = cs[i]? := by
  unfold Blk at h
  simp [World.cell?, h]
theorem Blk.free {w : World} {g : Nat} {t : TypeId} {cs : Array Value} (h : Blk w g t cs) : ∀ i, w.frozen? ⟨g, i, none⟩ = false := by
  unfold Blk at h
  intro i
  simp [World.frozen?, h]
theorem Blk.lt {w : World} {g : Nat} {t : TypeId} {cs : Array Value} (h : Blk w g t cs) : g < w.heap.size := by
  rcases Nat.lt_or_ge g w.heap.size with hl | hl
  · exact hl
  · unfold Blk at h
    rw [Array.getElem?_eq_none hl] at h
    cases h
theorem Blk.new_ (w : World) (t : TypeId) (cs : Array Value) : Blk (w.alloc (.cells cs t)) w.heap.size t cs := heap_alloc_new w _
theorem Blk.alloc_ {w : World} {g : Nat} {t : TypeId} {cs : Array Value} (h : Blk w g t cs) (o : Obj) : Blk (w.alloc o) g t cs := (Below.heap_alloc w o g h.lt).trans h
theorem Blk.set_ {w : World} {g : Nat} {t : TypeId} {cs : Array Value} (h : Blk w g t cs) (i : Nat) (u : Value) : Blk (w.setCell ⟨g, i, none⟩ u) g t (cs.setIfInBounds i u) := Joins.block_setCell h u
theorem Blk.far {w : World} {g : Nat} {t : TypeId} {cs : Array Value} (h : Blk w g t cs) {p : Addr} (hp : g ≠ p.block) (u : Value) : Blk (w.setCell p u) g t cs := (Below.heap_setCell w p u g hp).trans h
theorem Blk.below {w w' : World} {g B : Nat} {t : TypeId} {cs : Array Value} (h : Blk w g t cs) (hb : Below B w w') (hg : g < B) : Blk w' g t cs := (hb.block g hg).trans h
theorem below_dn {B : Nat} {a w : World} (h : Below B a w) (n : Nat) : Below B a (w.drewN n) := ⟨h.os, h.tape, h.output, h.size, h.block⟩
theorem pz1 {α : Type} (l : List α) (i : Nat) (a : α) : l.toArray.setIfInBounds i a = (l.set i a).toArray := List.setIfInBounds_toArray ..
theorem pz2 {α : Type} (x : α) (xs : List α) (a : α) : (x :: xs).set 0 a = a :: xs := List.set_cons_zero ..
theorem pz3 {α : Type} (x : α) (xs : List α) (n : Nat) (a : α) : (x :: xs).set (n + 1) a = x :: xs.set n a := List.set_cons_succ ..
theorem tk (i : Nat) {P : Program} {ops : Array Oper} {Q : Exit → Act → World → Prop} {md : Region.Mode} {S : World → Prop} {fuel : Nat} {listed : Array Bool} {a : Act} {w : World} {d_ : Option Nat} {op_ : Op} {ty_ : TypeId} {ps_ : String} {af_ : Array Edge} {gd_ : Option (Nat × Bool)} {v : Value} (h : wpAnyH P md ops Q S fuel (listed.setIfInBounds i true) (a.put d_ v) w) (hi : ops[i]? = some ⟨d_, op_, ty_, ps_, af_, gd_⟩ := by rfl) (hy : ∀ w, S w → (execOp a.eval ⟨d_, op_, ty_, ps_, af_, gd_⟩).run P w = .ok (.value v) w := by (intro wS hSw; (try dsimp only at hSw); go_simp; (try with_reducible rfl))) (hs : Region.noSelect ops = true := by kernel_rfl) (hf : Region.free md ops listed i = true := by kernel_rfl) (hr : (Region.ready md ops listed).contains i = true := by kernel_rfl) (hQ : ∀ c a w, Q (.panic c) (a.put d_ v) w → Q (.panic c) a w := by exact fun _ _ _ h => h) (hw : Region.wanted ⟨d_, op_, ty_, ps_, af_, gd_⟩ (yielded ops a.tmps) = true := by rfl) (hS : S w := by assumption) : wpAnyH P md ops Q S (fuel + 1) listed a w :=
  wpAnyH_take hi hs hf hr hQ (Or.inl ⟨hw, hy⟩) hS h
theorem tu (i : Nat) {P : Program} {ops : Array Oper} {Q : Exit → Act → World → Prop} {md : Region.Mode} {S : World → Prop} {fuel : Nat} {listed : Array Bool} {a : Act} {w : World} {d_ : Option Nat} {op_ : Op} {ty_ : TypeId} {ps_ : String} {af_ : Array Edge} {gd_ : Option (Nat × Bool)} (h : wpAnyH P md ops Q S fuel (listed.setIfInBounds i true) (a.put d_ undef) w) (hi : ops[i]? = some ⟨d_, op_, ty_, ps_, af_, gd_⟩ := by rfl) (hs : Region.noSelect ops = true := by kernel_rfl) (hf : Region.free md ops listed i = true := by kernel_rfl) (hr : (Region.ready md ops listed).contains i = true := by kernel_rfl) (hQ : ∀ c a w, Q (.panic c) (a.put d_ undef) w → Q (.panic c) a w := by exact fun _ _ _ h => h) (hw : Region.wanted ⟨d_, op_, ty_, ps_, af_, gd_⟩ (yielded ops a.tmps) = false := by rfl) (hS : S w := by assumption) : wpAnyH P md ops Q S (fuel + 1) listed a w :=
  wpAnyH_take hi hs hf hr hQ (Or.inr ⟨hw, rfl⟩) hS h
end Go.Proofs.YteokeghenjobaaaGreatDoor
namespace Go.Proofs.YteokeghenjobaaaGreatDoor
open Go.ChangeShapes Go.WideShapes Go.ChangeAt Go.RowKit Go.Deep
def i64in (z : Int) : Prop := -9223372036854775808 ≤ z ∧ z ≤ 9223372036854775807
theorem i64in_of {z : Int} (h : (Lit.int .i64 z).wf = true) : i64in z := by
  have e1 : IntKind.i64.min = -9223372036854775808 := rfl
  have e2 : IntKind.i64.max = 9223372036854775807 := rfl
  simp only [Lit.wf, Bool.and_eq_true, decide_eq_true_eq, e1, e2] at h
  exact h
section
variable {H : Type} {enc : TypeId × Value → H} {P : Program} {w : World} {base : Nat} {spare : Nat → Bool} {held : Bool}
theorem int_value {r : Reach} {b0 : Nat} {t : TypeId} {v : Value} {d : DataW H} {p : List MemPlace} (ht : P.underlying t = some (.int .i64)) (hv : Value.okWide P w r b0 t v) (h : DataW.Trod enc P w base spare held t v d p) :
    ∃ z, v = .int .i64 z ∧ i64in z := by
  obtain ⟨z, rfl, _, _, hw⟩ := open_int ht hv h
  exact ⟨z, rfl, i64in_of hw⟩
end
end Go.Proofs.YteokeghenjobaaaGreatDoor
namespace Go.Proofs.YteokeghenjobaaaGreatDoor
open Go.ChangeShapes Go.WideShapes Go.ChangeAt Go.RowKit Go.Deep
def LeafOk : Option IntKind → Value → Prop
  | some k, v => ∃ z, v = .int k z ∧ (Lit.int k z).wf = true
  | none, v => ∃ b, v = .bool b
def Flat : List (Option IntKind) → List Value → Prop
  | [], cs => cs = []
  | l :: ls, cs => ∃ v r, cs = v :: r ∧ LeafOk l v ∧ Flat ls r
theorem Flat.append : ∀ {ls ms : List (Option IntKind)} {cs ds : List Value}, Flat ls cs → Flat ms ds → Flat (ls ++ ms) (cs ++ ds)
  | [], _, cs, ds, h, k => by
    obtain rfl : cs = [] := h
    exact k
  | _ :: ls, _, _, _, h, k => by
    obtain ⟨v, r, rfl, h1, h2⟩ := h
    exact ⟨v, r ++ _, rfl, h1, h2.append k⟩
theorem Flat.length : ∀ {ls : List (Option IntKind)} {cs : List Value}, Flat ls cs → cs.length = ls.length
  | [], cs, h => by
    obtain rfl : cs = [] := h
    rfl
  | _ :: ls, _, h => by
    obtain ⟨v, r, rfl, _, h2⟩ := h
    simp [h2.length]
def flatFields (P : Program) (sh : TypeId → Option (List (Option IntKind))) : List Field → Nat → Option (List (Option IntKind))
  | [], _ => some []
  | f :: fs, o =>
    if f.offset = o then
      match sh f.type with
      | some l => if P.cellsOf f.type = l.length then
          match flatFields P sh fs (o + l.length) with
          | some r => some (l ++ r)
          | none => none
        else none
      | none => none
    else none
def flatShape (P : Program) : Nat → TypeId → Option (List (Option IntKind))
  | 0, _ => none
  | n + 1, t => match P.underlying t with
    | some (.int k) => some [some k]
    | some .bool => some [none]
    | some (.struct fs) => match flatFields P (flatShape P n) fs.toList 0 with
      | some l => if P.cellsOf t = l.length then some l else none
      | none => none
    | _ => none
section
variable {H : Type} {enc : TypeId × Value → H} {P : Program} {w : World} {base : Nat} {spare : Nat → Bool} {held : Bool}
end
def SlE (C : Nat) (w : World) (B : Nat) (A : Option Addr) (es : List (List Value)) : Prop :=
  es = [] ∨ ∃ b off, A = some ⟨b, off, none⟩ ∧ b < B ∧ ∀ k x, es[k]? = some x → ∀ j u, x[j]? = some u → w.cell? ⟨b, off + k * C + j, none⟩ = some u
theorem SlE.at_ {C : Nat} {w : World} {B : Nat} {A : Option Addr} {es : List (List Value)} (h : SlE C w B A es) (hn : 0 < es.length) :
    ∃ b off, A = some ⟨b, off, none⟩ ∧ b < B ∧ ∀ k x, es[k]? = some x → ∀ j u, x[j]? = some u → w.cell? ⟨b, off + k * C + j, none⟩ = some u := by
  rcases h with rfl | h
  · simp at hn
  · exact h
theorem SlE.below {C : Nat} {w w' : World} {B : Nat} {A : Option Addr} {es : List (List Value)} (h : SlE C w B A es) (hb : Below B w w') : SlE C w' B A es := by
  rcases h with h | ⟨b, off, e, hlt, hc⟩
  · exact Or.inl h
  · exact Or.inr ⟨b, off, e, hlt, fun k x hx j u hu => (hb.cell (p := ⟨b, _, none⟩) hlt).trans (hc k x hx j u hu)⟩
theorem SlE.mono {C : Nat} {w : World} {B B' : Nat} {A : Option Addr} {es : List (List Value)} (h : SlE C w B A es) (hB : B ≤ B') : SlE C w B' A es := by
  rcases h with h | ⟨b, off, e, hlt, hc⟩
  · exact Or.inl h
  · exact Or.inr ⟨b, off, e, by omega, hc⟩
theorem SlE.next {C : Nat} {w w' : World} {A : Option Addr} {es : List (List Value)} (h : SlE C w w.heap.size A es) (hb : Below w.heap.size w w') : SlE C w' w'.heap.size A es := (h.below hb).mono hb.size
section
variable {H : Type} {enc : TypeId × Value → H} {P : Program} {w : World} {base : Nat} {spare : Nat → Bool} {held : Bool}
def eltOf (w : World) (b off C i : Nat) : List Value := (List.range C).map fun j => (w.cell? ⟨b, off + i * C + j, none⟩).getD undef
end
theorem Flat.int {k : IntKind} {ls : List (Option IntKind)} {cs : List Value} (h : Flat (some k :: ls) cs) : ∃ z r, cs = .int k z :: r ∧ (Lit.int k z).wf = true ∧ Flat ls r := by
  obtain ⟨v, r, rfl, ⟨z, rfl, hw⟩, h2⟩ := h
  exact ⟨z, r, rfl, hw, h2⟩
theorem Flat.bool {ls : List (Option IntKind)} {cs : List Value} (h : Flat (none :: ls) cs) : ∃ z r, cs = .bool z :: r ∧ Flat ls r := by
  obtain ⟨v, r, rfl, ⟨z, rfl⟩, h2⟩ := h
  exact ⟨z, r, rfl, h2⟩
theorem Flat.nil {cs : List Value} (h : Flat [] cs) : cs = [] := h
end Go.Proofs.YteokeghenjobaaaGreatDoor
namespace Go.Proofs.YteokeghenjobaaaGreatDoor
open Go.ChangeShapes Go.WideShapes Go.ChangeAt Go.RowKit Go.Deep
inductive OkT (P : Program) (w : World) : Nat → TypeId → List Value → Prop
  | zero (t : TypeId) (cs : List Value) : OkT P w 0 t cs
  | int (n : Nat) (t : TypeId) (k : IntKind) (z : Int) (ht : P.underlying t = some (.int k)) (hw : (Lit.int k z).wf = true) : OkT P w (n + 1) t [.int k z]
  | bool (n : Nat) (t : TypeId) (b : Bool) (ht : P.underlying t = some .bool) : OkT P w (n + 1) t [.bool b]
  | str (n : Nat) (t : TypeId) (s : ByteArray) (ht : P.underlying t = some .string) (hs : s.size ≤ maxLen) : OkT P w (n + 1) t [.string s]
  | struct (n : Nat) (t : TypeId) (fs : Array Field) (cs : List Value) (ht : P.underlying t = some (.struct fs)) (hl : cs.length = P.cellsOf t) (hf : ∀ (i : Nat) (f : Field), fs[i]? = some f → OkT P w n f.type ((cs.drop f.offset).take (P.cellsOf f.type))) : OkT P w (n + 1) t cs
  | row (n : Nat) (t e : TypeId) (A : Option Addr) (len cap : Nat) (es : List (List Value)) (ht : P.underlying t = some (.slice e)) (hl : len = es.length) (hc : len ≤ cap) (hm : cap ≤ maxLen) (hs : SlE (P.cellsOf e) w w.heap.size A es) (hel : ∀ x ∈ es, x.length = P.cellsOf e) (he : ∀ x ∈ es, OkT P w n e x) : OkT P w (n + 1) t [.slice A len cap]
  | more (n : Nat) (t : TypeId) (cs : List Value) (h1 : ∀ k, P.underlying t ≠ some (.int k)) (h2 : P.underlying t ≠ some .string) (h3 : ∀ fs, P.underlying t ≠ some (.struct fs)) (h4 : ∀ e, P.underlying t = some (.slice e) → P.cellsOf e = 0) (h5 : P.underlying t ≠ some .bool) : OkT P w (n + 1) t cs
section
variable {H : Type} {enc : TypeId × Value → H} {P : Program} {w : World} {base : Nat} {spare : Nat → Bool} {held : Bool}
theorem row_of_trod {n : Nat} {t e : TypeId} {cs : List Value} {x : DataW H × List MemPlace} {R : List Value → Prop} (ht : P.underlying t = some (.slice e)) (hpos : 0 < P.cellsOf e)
    (hR : ∀ n' cs' x', DataW.trod enc P w base spare held n' e cs' = some x' → R cs') (hf : DataW.trod enc P w base spare held n t cs = some x) :
    ∃ (A : Option Addr) (len cap : Nat) (es : List (List Value)), cs = [.slice A len cap] ∧ len = es.length ∧ len ≤ cap ∧ cap ≤ maxLen ∧ SlE (P.cellsOf e) w w.heap.size A es ∧ ∀ x ∈ es, x.length = P.cellsOf e ∧ R x := by
  rcases open_slice ht hf with hcs | ⟨a, len, cap, m, n', D, Pl, hcs, hb, hl, hm', hm, hx, hi⟩
  · exact ⟨none, 0, 0, [], hcs.1, rfl, Nat.le_refl _, by unfold maxLen; omega, Or.inl rfl, by simp⟩
  · have hlm : len ≤ m := by rw [hm]; split <;> omega
    have key : ∀ i, i < len → ∃ cs', cs'.length = P.cellsOf e ∧ R cs' ∧ ∀ j u, cs'[j]? = some u → w.cell? (a.add (i * P.cellsOf e + j)) = some u := by
      intro i hlt
      obtain ⟨cs', hc, ht'⟩ := hi i (by omega)
      obtain ⟨_, hcl, hat⟩ := World.cells?_some hc
      refine ⟨cs', hcl, hR _ _ _ ht', fun j u hu => ?_⟩
      have hj : j < cs'.length := (List.getElem?_eq_some_iff.1 hu).1
      have := hat j (by omega)
      rw [← Go.Deep.add_add, this, hu]
    rcases Nat.eq_zero_or_pos len with h0 | h0
    · subst h0
      exact ⟨some a, 0, cap, [], hcs, rfl, hl, hm', Or.inl rfl, by simp⟩
    · obtain ⟨b, off, spot⟩ := a
      obtain ⟨c0, hc0, _, hu0⟩ := key 0 h0
      have hu0 := hu0 0 (c0[0]'(by omega)) (List.getElem?_eq_getElem (by omega))
      have hsp : spot = none := by simpa [Addr.add] using World.cell?_spot hu0
      subst hsp
      have hb : b < w.heap.size := by simpa [Addr.add] using World.block_lt_of_cell? _ _ hu0
      have hel : ∀ i, i < len → (eltOf w b off (P.cellsOf e) i).length = P.cellsOf e ∧ R (eltOf w b off (P.cellsOf e) i) ∧ ∀ j u, (eltOf w b off (P.cellsOf e) i)[j]? = some u → w.cell? ⟨b, off + i * P.cellsOf e + j, none⟩ = some u := by
        intro i hlt
        obtain ⟨cs', hcl, hfl, hat⟩ := key i hlt
        have heq : eltOf w b off (P.cellsOf e) i = cs' := by
          apply List.ext_getElem
          · simp [eltOf, hcl]
          · intro j h1 h2
            have := hat j (cs'[j]) (List.getElem?_eq_getElem h2)
            rw [add_plain] at this
            simp only [eltOf, List.getElem_map, List.getElem_range]
            rw [Nat.add_assoc, this]
            rfl
        rw [heq]
        refine ⟨hcl, hfl, fun j u hu => ?_⟩
        have := hat j u hu
        rwa [add_plain, ← Nat.add_assoc] at this
      refine ⟨some ⟨b, off, none⟩, len, cap, (List.range len).map (eltOf w b off (P.cellsOf e)), hcs, by simp, hl, hm', ?_, ?_⟩
      · right
        refine ⟨b, off, rfl, hb, fun i f hv j u hu => ?_⟩
        obtain ⟨hlt, rfl⟩ := List.getElem?_eq_some_iff.1 hv
        have hlt' : i < len := by simpa using hlt
        simp only [List.getElem_map, List.getElem_range] at hu
        exact (hel i hlt').2.2 j u hu
      · intro f hf
        obtain ⟨i, hi', rfl⟩ := List.mem_map.1 hf
        have := hel i (by simpa using hi')
        exact ⟨this.1, this.2.1⟩
theorem okT_of : ∀ (m n : Nat) (t : TypeId) (cs : List Value) (x : DataW H × List MemPlace), DataW.trod enc P w base spare held n t cs = some x → OkT P w m t cs
  | 0, _, _, _, _, _ => .zero _ _
  | m + 1, n, t, cs, x, hx => by
    by_cases h1 : ∃ k, P.underlying t = some (.int k)
    · obtain ⟨k, hk⟩ := h1
      obtain ⟨z, rfl, _, hw⟩ := DataW.trod_int hk hx
      exact .int _ _ _ _ hk hw
    by_cases h5 : P.underlying t = some .bool
    · obtain ⟨z, rfl, _⟩ := DataW.trod_bool h5 hx
      exact .bool _ _ _ h5
    by_cases h2 : P.underlying t = some .string
    · obtain ⟨s, rfl, _, hs⟩ := DataW.trod_string h2 hx
      exact .str _ _ _ h2 hs
    by_cases h3 : ∃ fs, P.underlying t = some (.struct fs)
    · obtain ⟨fs, hk⟩ := h3
      obtain ⟨ys, n', rfl, _, hlen, hyl, hf⟩ := DataW.trod_struct hk hx
      refine .struct _ _ fs _ hk (by assumption) (fun i f hfi => ?_)
      have h1 := hf i f hfi
      have hi : i < ys.length := by
        have := (Array.getElem?_eq_some_iff.1 hfi).1
        omega
      rw [List.getElem?_eq_getElem hi] at h1
      exact okT_of m n' f.type _ _ h1
    by_cases h4 : ∃ e, P.underlying t = some (.slice e) ∧ 0 < P.cellsOf e
    · obtain ⟨e, hk, hpos⟩ := h4
      obtain ⟨A, len, cap, es, rfl, q1, q2, q3, q4, q5⟩ := row_of_trod (R := fun cs => OkT P w m e cs) hk hpos (fun n' cs' x' h => okT_of m n' e cs' x' h) hx
      exact .row _ _ e _ _ _ es hk q1 q2 q3 q4 (fun x hx => (q5 x hx).1) (fun x hx => (q5 x hx).2)
    exact .more _ _ _ (fun k hk => h1 ⟨k, hk⟩) h2 (fun fs hk => h3 ⟨fs, hk⟩) (fun e hk => Nat.eq_zero_of_not_pos (fun hp => h4 ⟨e, hk, hp⟩)) h5
theorem okT_value {r : Reach} {b0 : Nat} {t : TypeId} {v : Value} {d : DataW H} {p : List MemPlace} (m : Nat) (hv : Value.okWide P w r b0 t v) (h : DataW.Trod enc P w base spare held t v d p) : OkT P w m t v.cells.toList := by
  obtain ⟨fuel, hf⟩ := h
  exact okT_of m fuel t _ _ hf
end
theorem okT_int {P : Program} {w : World} {n : Nat} {t : TypeId} {k : IntKind} {cs : List Value} (ht : P.underlying t = some (.int k)) (h : OkT P w (n + 1) t cs) : ∃ z, cs = [.int k z] ∧ (Lit.int k z).wf = true := by
  cases h with
  | int _ _ k' z h1 hw => rw [h1] at ht; cases ht; exact ⟨z, rfl, hw⟩
  | bool _ _ b h1 => rw [h1] at ht; cases ht
  | str _ _ s h1 _ => rw [h1] at ht; cases ht
  | struct _ _ fs _ h1 _ _ => rw [h1] at ht; cases ht
  | row _ _ e A len cap es h1 _ _ _ _ _ _ => rw [h1] at ht; cases ht
  | more _ _ _ h1 _ _ _ _ => exact absurd ht (h1 k)
theorem okT_str {P : Program} {w : World} {n : Nat} {t : TypeId} {cs : List Value} (ht : P.underlying t = some .string) (h : OkT P w (n + 1) t cs) : ∃ s : ByteArray, cs = [.string s] ∧ s.size ≤ maxLen := by
  cases h with
  | int _ _ k' z h1 hw => rw [h1] at ht; cases ht
  | bool _ _ b h1 => rw [h1] at ht; cases ht
  | str _ _ s h1 hs => exact ⟨s, rfl, hs⟩
  | struct _ _ fs _ h1 _ _ => rw [h1] at ht; cases ht
  | row _ _ e A len cap es h1 _ _ _ _ _ _ => rw [h1] at ht; cases ht
  | more _ _ _ _ h2 _ _ _ => exact absurd ht h2
theorem okT_struct {P : Program} {w : World} {n : Nat} {t : TypeId} {fs : Array Field} {cs : List Value} (ht : P.underlying t = some (.struct fs)) (h : OkT P w (n + 1) t cs) : cs.length = P.cellsOf t ∧ ∀ (i : Nat) (f : Field), fs[i]? = some f → OkT P w n f.type ((cs.drop f.offset).take (P.cellsOf f.type)) := by
  cases h with
  | int _ _ k' z h1 hw => rw [h1] at ht; cases ht
  | bool _ _ b h1 => rw [h1] at ht; cases ht
  | str _ _ s h1 hs => rw [h1] at ht; cases ht
  | struct _ _ fs' _ h1 hl hf => rw [h1] at ht; cases ht; exact ⟨hl, hf⟩
  | row _ _ e A len cap es h1 _ _ _ _ _ _ => rw [h1] at ht; cases ht
  | more _ _ _ _ _ h3 _ _ => exact absurd ht (h3 fs)
theorem okT_row {P : Program} {w : World} {n : Nat} {t e : TypeId} {cs : List Value} (ht : P.underlying t = some (.slice e)) (hp : 0 < P.cellsOf e) (h : OkT P w (n + 1) t cs) : ∃ (A : Option Addr) (len cap : Nat) (es : List (List Value)), cs = [.slice A len cap] ∧ len = es.length ∧ len ≤ cap ∧ cap ≤ maxLen ∧ SlE (P.cellsOf e) w w.heap.size A es ∧ ∀ x ∈ es, x.length = P.cellsOf e ∧ OkT P w n e x := by
  cases h with
  | int _ _ k' z h1 hw => rw [h1] at ht; cases ht
  | bool _ _ b h1 => rw [h1] at ht; cases ht
  | str _ _ s h1 hs => rw [h1] at ht; cases ht
  | struct _ _ fs' _ h1 hl hf => rw [h1] at ht; cases ht
  | row _ _ e' A len cap es h1 q1 q2 q3 q4 q5 q6 => rw [h1] at ht; cases ht; exact ⟨A, len, cap, es, rfl, q1, q2, q3, q4, fun x hx => ⟨q5 x hx, q6 x hx⟩⟩
  | more _ _ _ _ _ _ h4 _ => have := h4 e ht; omega
theorem okT_agg {H : Type} {enc : TypeId × Value → H} {P : Program} {w : World} {base : Nat} {spare : Nat → Bool} {held : Bool} {r : Reach} {b0 : Nat} {t : TypeId} {fs : Array Field} {v : Value} {d : DataW H} {p : List MemPlace} (m : Nat) (ht : P.underlying t = some (.struct fs)) (hv : Value.okWide P w r b0 t v) (h : DataW.Trod enc P w base spare held t v d p) : ∃ cs : List Value, v = .agg cs.toArray ∧ OkT P w m t cs := by
  obtain ⟨cs, rfl, hsz⟩ := okWide_struct ht hv
  obtain ⟨l⟩ := cs
  exact ⟨l, rfl, okT_value m hv h⟩
theorem choose_list {α β : Type} {R : α → β → Prop} : ∀ (es : List α), (∀ x ∈ es, ∃ y, R x y) → ∃ ys : List β, ys.length = es.length ∧ ∀ (k : Nat) (x : α) (y : β), es[k]? = some x → ys[k]? = some y → R x y
  | [], _ => ⟨[], rfl, fun k x y h => by simp at h⟩
  | x :: es, h => by
    obtain ⟨y, hy⟩ := h x (by simp)
    obtain ⟨ys, hl, hr⟩ := choose_list es (fun x hx => h x (by simp [hx]))
    refine ⟨y :: ys, by simp [hl], fun k a b ha hb => ?_⟩
    cases k with
    | zero => simp at ha hb; subst ha hb; exact hy
    | succ k => exact hr k a b (by simpa using ha) (by simpa using hb)
end Go.Proofs.YteokeghenjobaaaGreatDoor
namespace Go.Proofs.YteokeghenjobaaaGreatDoor
open Go.ChangeShapes Go.WideShapes Go.ChangeAt Go.RowKit
def Rd (w : World) (A : Option Addr) (m size : Nat) (news : List Value) : Prop :=
  news.length = m * size ∧ (m = 0 ∨ ∃ b off, A = some ⟨b, off, none⟩ ∧ ∀ j u, news[j]? = some u → w.cell? ⟨b, off + j, none⟩ = some u)
theorem Rd.of_sl {w : World} {B : Nat} {A : Option Addr} {vs : List Value} (h : Sl w B A vs) {m : Nat} (hm : vs.length = m) : Rd w A m 1 vs := by
  refine ⟨by omega, ?_⟩
  rcases h with h | ⟨b, off, e, _, hc⟩
  · left
    rw [← hm, h]
    rfl
  · exact Or.inr ⟨b, off, e, hc⟩
theorem Rd.keep {w w' : World} {A : Option Addr} {m size : Nat} {news : List Value} (h : Rd w A m size news) (hk : ∀ b o, A = some ⟨b, o, none⟩ → ∀ j, w'.cell? ⟨b, j, none⟩ = w.cell? ⟨b, j, none⟩) : Rd w' A m size news := by
  obtain ⟨h1, h2⟩ := h
  refine ⟨h1, ?_⟩
  rcases h2 with h2 | ⟨b, off, e, hc⟩
  · exact Or.inl h2
  · exact Or.inr ⟨b, off, e, fun j u hu => (hk b off e _).trans (hc j u hu)⟩
theorem Rd.one {w : World} {b : Nat} {u : Value} (h : w.cell? ⟨b, 0, none⟩ = some u) : Rd w (some ⟨b, 0, none⟩) 1 1 [u] := by
  refine ⟨rfl, Or.inr ⟨b, 0, rfl, fun j v hj => ?_⟩⟩
  obtain ⟨hlt, rfl⟩ := List.getElem?_eq_some_iff.1 hj
  have hj0 : j = 0 := by simp at hlt; omega
  subst hj0
  simpa using h
section
variable {P : Program} (w : World)
theorem run_app (base : Nat) (t ty e : TypeId) (i : TypeInfo) (z : Value) (size bytes : Nat) (ht : P.underlying t = some (.slice e)) (hi : P.info? e = some i) (hz : i.zero = some z)
    (hsize : i.size = size) (hby : i.bytes = bytes) (hzs : z.cells.size = size) (hsz : 0 < size)
    (v : Value) (n : Nat) (xs : List Value) (hown : w.ownsRow base e size v n xs)
    (A : Option Addr) (m c : Nat) (news : List Value) (hr : Rd w A m size news) (h1 : ∀ u ∈ news, u.oneCell' = true)
    (h63 : n + m ≤ maxLen) (hbytes : (n + m) * bytes ≤ 140737488355328) (hbase : base ≤ w.heap.size) :
    ∃ v' w', (Builtin.append_ #[t, t] ty #[v, .slice A m c]).run P w = .ok v' w' ∧ w'.ownsRow base e size v' (n + m) (xs ++ news) ∧ w.grownBy w' v.ownBlock ∧
      (v'.ownBlock = v.ownBlock ∨ v'.ownBlock = some w.heap.size) := by
  obtain ⟨hl, hr⟩ := hr
  cases A with
  | none =>
    obtain rfl : m = 0 := by
      rcases hr with h | ⟨_, _, h, _⟩
      · exact h
      · cases h
    obtain rfl : news = [] := List.eq_nil_of_length_eq_zero (by omega)
    refine ⟨v, w, ?_, by simpa using hown, World.grownBy.refl w _, .inl rfl⟩
    rcases hown.2 with ⟨rfl, rfl⟩ | ⟨g, cap, cur, rfl, _, _, hnc, _⟩
    · simp [Builtin.append_, run_underlying ht, sizeOf, typeInfo, hi, Builtin.lenOf, Builtin.firstCells]
    · simp [Builtin.append_, run_underlying ht, sizeOf, typeInfo, hi, Builtin.lenOf, Builtin.firstCells, hnc, storeCells]
  | some ad =>
    have hcells : ∀ j u, news[j]? = some u → w.cell? (ad.add j) = some u := by
      intro j u hu
      rcases hr with h | ⟨b, off, h, hc⟩
      · subst h
        obtain rfl : news = [] := List.eq_nil_of_length_eq_zero (by omega)
        cases hu
      · cases h
        have := hc j u hu
        unfold Addr.add
        split
        · rename_i h0
          rw [h0] at this
          simpa using this
        · exact this
    obtain ⟨v', w', hrun, h2, h3, _, h5⟩ := run_append_own_at (P := P) w base t ty e i z size bytes ht hi hz hsize hby hzs hsz v n xs hown ad m c news hl hcells h1 h63 hbytes hbase
    exact ⟨v', w', hrun, h2, h3, h5⟩
theorem wp_app {o : Oper} {a : Act} {K : Act → World → Prop} {Q : Exit → Act → World → Prop} (s x : Operand) (t : TypeId)
    (ho : o.op = .call { callee := .builtin .append, args := #[s, x], argTypes := #[t, t] })
    (base : Nat) (e : TypeId) (i : TypeInfo) (z : Value) (size bytes : Nat) (ht : P.underlying t = some (.slice e)) (hi : P.info? e = some i) (hz : i.zero = some z)
    (hsize : i.size = size) (hby : i.bytes = bytes) (hzs : z.cells.size = size) (hsz : 0 < size)
    (v : Value) (n : Nat) (xs : List Value) (hs : a.eval s = v) (hown : w.ownsRow base e size v n xs)
    (A : Option Addr) (m c : Nat) (news : List Value) (hx : a.eval x = .slice A m c) (hr : Rd w A m size news) (h1 : ∀ u ∈ news, u.oneCell' = true)
    (h63 : n + m ≤ maxLen) (hbytes : (n + m) * bytes ≤ 140737488355328) (hbase : base ≤ w.heap.size)
    (h : ∀ v' w', w'.ownsRow base e size v' (n + m) (xs ++ news) → w.grownBy w' v.ownBlock → (v'.ownBlock = v.ownBlock ∨ v'.ownBlock = some w.heap.size) → K (a.put o.dst v') w') : o.wp P a w K Q := by
  obtain ⟨v', w', hrun, h2, h3, h4⟩ := run_app (P := P) w base t o.type e i z size bytes ht hi hz hsize hby hzs hsz v n xs hown A m c news hr h1 h63 hbytes hbase
  unfold Oper.wp execOp
  simp only [ho, resolve, invoke, builtin, Sem.run_bind, Sem.run_pure, Result.andThen_ok, List.map_toArray, List.map_cons, List.map_nil, hs, hx, hrun]
  exact h v' w' h2 h3 h4
theorem wpList_app {ops : Array Oper} {rest : List Oper} {o : Oper} {a : Act} {Q : Exit → Act → World → Prop} (hgd : o.guard = none) (s x : Operand) (t : TypeId)
    (ho : o.op = .call { callee := .builtin .append, args := #[s, x], argTypes := #[t, t] })
    (base : Nat) (e : TypeId) (i : TypeInfo) (z : Value) (size bytes : Nat) (ht : P.underlying t = some (.slice e)) (hi : P.info? e = some i) (hz : i.zero = some z)
    (hsize : i.size = size) (hby : i.bytes = bytes) (hzs : z.cells.size = size) (hsz : 0 < size)
    (v : Value) (n : Nat) (xs : List Value) (hs : a.eval s = v) (hown : w.ownsRow base e size v n xs)
    (A : Option Addr) (m c : Nat) (news : List Value) (hx : a.eval x = .slice A m c) (hr : Rd w A m size news) (h1 : ∀ u ∈ news, u.oneCell' = true)
    (h63 : n + m ≤ maxLen) (hbytes : (n + m) * bytes ≤ 140737488355328) (hbase : base ≤ w.heap.size)
    (h : ∀ v' w', w'.ownsRow base e size v' (n + m) (xs ++ news) → w.grownBy w' v.ownBlock → (v'.ownBlock = v.ownBlock ∨ v'.ownBlock = some w.heap.size) → wpList P ops Q rest (a.put o.dst v') w') : wpList P ops Q (o :: rest) a w :=
  wpList_plain hgd fun _ hK => wp_app w s x t ho base e i z size bytes ht hi hz hsize hby hzs hsz v n xs hs hown A m c news hx hr h1 h63 hbytes hbase fun v' w' h2 h3 h4 => hK _ _ (h v' w' h2 h3 h4)
theorem step_app {ops : Array Oper} {o : Oper} {a : Act} {K : Act → World → Prop} {Q : Exit → Act → World → Prop} {E : Prop} (hgd : o.guard = none) (s x : Operand) (t : TypeId)
    (ho : o.op = .call { callee := .builtin .append, args := #[s, x], argTypes := #[t, t] })
    (base : Nat) (e : TypeId) (i : TypeInfo) (z : Value) (size bytes : Nat) (ht : P.underlying t = some (.slice e)) (hi : P.info? e = some i) (hz : i.zero = some z)
    (hsize : i.size = size) (hby : i.bytes = bytes) (hzs : z.cells.size = size) (hsz : 0 < size)
    (v : Value) (n : Nat) (xs : List Value) (hs : a.eval s = v) (hown : w.ownsRow base e size v n xs)
    (A : Option Addr) (m c : Nat) (news : List Value) (hx : a.eval x = .slice A m c) (hr : Rd w A m size news) (h1 : ∀ u ∈ news, u.oneCell' = true)
    (h63 : n + m ≤ maxLen) (hbytes : (n + m) * bytes ≤ 140737488355328) (hbase : base ≤ w.heap.size)
    (h : ∀ v' w', w'.ownsRow base e size v' (n + m) (xs ++ news) → w.grownBy w' v.ownBlock → (v'.ownBlock = v.ownBlock ∨ v'.ownBlock = some w.heap.size) → K (a.put o.dst v') w') :
    if Region.wanted o (yielded ops a.tmps) = true then Oper.wp P o a w K Q else E := by
  have hw : Region.wanted o (yielded ops a.tmps) = true := by simp [Region.wanted, hgd]
  rw [if_pos hw]
  exact wp_app w s x t ho base e i z size bytes ht hi hz hsize hby hzs hsz v n xs hs hown A m c news hx hr h1 h63 hbytes hbase h
end
theorem below_app {B base : Nat} {w w' : World} {e : TypeId} {size n : Nat} {v : Value} {xs : List Value} (hB : B ≤ base) (hb : base ≤ w.heap.size) (hown : w.ownsRow base e size v n xs) (hg : w.grownBy w' v.ownBlock) : Below B w w' := by
  refine (Below.refl _ _).grown hg (by omega) ?_
  intro g hgv
  rcases hown.2 with ⟨rfl, _⟩ | ⟨g', cap, cur, rfl, hbg, _⟩
  · simp [Value.ownBlock] at hgv
  · simp [Value.ownBlock] at hgv
    omega
end Go.Proofs.YteokeghenjobaaaGreatDoor
namespace Go.Proofs.YteokeghenjobaaaGreatDoor
open Go.ChangeShapes Go.WideShapes Go.ChangeAt Go.RowKit
structure Tch (S : Nat → Prop) (w w' : World) : Prop where
  size : w.heap.size ≤ w'.heap.size
  far : ∀ g, g < w.heap.size → ¬ S g → w'.heap[g]? = w.heap[g]?
  os : w'.os = w.os
  tape : w'.tape = w.tape
  output : w'.output = w.output
theorem Tch.refl {S : Nat → Prop} (w : World) : Tch S w w := ⟨Nat.le_refl _, fun _ _ _ => rfl, rfl, rfl, rfl⟩
theorem Tch.of_below {S : Nat → Prop} {w w' : World} (h : Below w.heap.size w w') : Tch S w w' := ⟨h.size, fun g hg _ => h.block g hg, h.os, h.tape, h.output⟩
theorem Tch.trans {S : Nat → Prop} {w w' w'' : World} (h : Tch S w w') (k : Tch S w' w'') : Tch S w w'' :=
  ⟨Nat.le_trans h.size k.size, fun g hg h1 => (k.far g (Nat.lt_of_lt_of_le hg h.size) h1).trans (h.far g hg h1), k.os.trans h.os, k.tape.trans h.tape, k.output.trans h.output⟩
theorem Tch.mono {S S' : Nat → Prop} {w w' : World} (h : Tch S w w') (hs : ∀ g, S g → S' g) : Tch S' w w' := ⟨h.size, fun g hg h1 => h.far g hg (fun h2 => h1 (hs g h2)), h.os, h.tape, h.output⟩
theorem Tch.below {S : Nat → Prop} {w w' : World} (h : Tch S w w') {B : Nat} (hB : B ≤ w.heap.size) (hs : ∀ g, S g → B ≤ g) : Below B w w' :=
  ⟨h.os, h.tape, h.output, h.size, fun g hg => h.far g (Nat.lt_of_lt_of_le hg hB) (fun h1 => by have := hs g h1; omega)⟩
theorem Tch.then {S : Nat → Prop} {w w' w'' : World} (h : Tch S w w') (k : Below w'.heap.size w' w'') : Tch S w w'' := h.trans (.of_below k)
theorem Tch.set {S : Nat → Prop} (w : World) (p : Addr) (u : Value) (hp : S p.block) : Tch S w (w.setCell p u) := by
  have hb := (Below.refl (0 : Nat) w).setCell (p := p) (Nat.zero_le _) u
  exact ⟨hb.size, fun g _ h1 => Below.heap_setCell w p u g (fun e => h1 (e ▸ hp)), hb.os, hb.tape, hb.output⟩
theorem Tch.setRow {S : Nat → Prop} (w : World) (g : Nat) (cs : Array Value) (hp : S g) : Tch S w (w.setRow g cs) :=
  ⟨by simp [World.setRow], fun h hh h1 => setRow_other w g h cs (fun e => h1 (e ▸ hp)), rfl, rfl, rfl⟩
theorem Tch.grown {S : Nat → Prop} {w w' : World} {row : Option Nat} (hg : w.grownBy w' row) (hr : ∀ k, row = some k → S k) : Tch S w w' :=
  ⟨hg.size, fun g hl h1 => hg.block g hl (fun e => h1 (hr g e.symm)), hg.os, hg.tape, hg.output⟩
theorem Tch.like {S : Nat → Prop} {w w1 w2 : World} (h : Tch S w w1) (e1 : w2.heap = w1.heap := by rfl) (e2 : w2.os = w1.os := by rfl) (e3 : w2.tape = w1.tape := by rfl) (e4 : w2.output = w1.output := by rfl) : Tch S w w2 :=
  ⟨by rw [e1]; exact h.size, fun x hx h1 => by rw [e1]; exact h.far x hx h1, e2.trans h.os, e3.trans h.tape, e4.trans h.output⟩
theorem Tch.blk {S : Nat → Prop} {w w' : World} {g : Nat} {t : TypeId} {cs : Array Value} (hT : Tch S w w') (h : Blk w g t cs) (h1 : ¬ S g) : Blk w' g t cs := (hT.far _ h.lt h1).trans h
theorem Tch.sl {S : Nat → Prop} {w w' : World} {B : Nat} {A : Option Addr} {vs : List Value} (hT : Tch S w w') (h : Sl w B A vs) (hB : B ≤ w.heap.size) (h1 : ∀ g, g < B → ¬ S g) : Sl w' B A vs :=
  h.below ⟨hT.os, hT.tape, hT.output, hT.size, fun g hg => hT.far g (Nat.lt_of_lt_of_le hg hB) (h1 g hg)⟩
def RowT (w : World) (g : Nat) (t : TypeId) (xs : List Value) : Prop := ∃ r : List Value, Blk w g t (xs ++ r).toArray
theorem RowT.cell_ {w : World} {g : Nat} {t : TypeId} {xs : List Value} (h : RowT w g t xs) {i : Nat} {v : Value} (hi : xs[i]? = some v) : w.cell? ⟨g, i, none⟩ = some v := by
  obtain ⟨r, h⟩ := h
  rw [h.cell_]
  simp only [List.getElem?_toArray]
  rw [List.getElem?_append_left (List.getElem?_eq_some_iff.1 hi).1, hi]
theorem RowT.free {w : World} {g : Nat} {t : TypeId} {xs : List Value} (h : RowT w g t xs) : ∀ i, w.frozen? ⟨g, i, none⟩ = false := by
  obtain ⟨r, h⟩ := h
  exact h.free
theorem RowT.lt {w : World} {g : Nat} {t : TypeId} {xs : List Value} (h : RowT w g t xs) : g < w.heap.size := by
  obtain ⟨r, h⟩ := h
  exact h.lt
theorem RowT.set_ {w : World} {g : Nat} {t : TypeId} {xs : List Value} (h : RowT w g t xs) {i : Nat} (hi : i < xs.length) (v : Value) : RowT (w.setCell ⟨g, i, none⟩ v) g t (xs.set i v) := by
  obtain ⟨r, h⟩ := h
  refine ⟨r, ?_⟩
  have := h.set_ i v
  rw [show ((xs ++ r).toArray.setIfInBounds i v) = (xs.set i v ++ r).toArray by
    rw [List.setIfInBounds_toArray, List.set_append_left _ _ hi]] at this
  exact this
theorem RowT.far {w : World} {g : Nat} {t : TypeId} {xs : List Value} (h : RowT w g t xs) {p : Addr} (hp : g ≠ p.block) (u : Value) : RowT (w.setCell p u) g t xs := by
  obtain ⟨r, h⟩ := h
  exact ⟨r, h.far hp u⟩
theorem RowT.keep {w w' : World} {g : Nat} {t : TypeId} {xs : List Value} (h : RowT w g t xs) (hb : w'.heap[g]? = w.heap[g]?) : RowT w' g t xs := by
  obtain ⟨r, h⟩ := h
  exact ⟨r, hb.trans h⟩
theorem RowT.below {w w' : World} {g : Nat} {t : TypeId} {xs : List Value} (h : RowT w g t xs) (hb : Below w.heap.size w w') : RowT w' g t xs := h.keep (hb.block _ h.lt)
theorem RowT.own {w : World} {base : Nat} {t : TypeId} {g n c : Nat} {xs : List Value} (h : w.ownsRow base t 1 (.slice (some ⟨g, 0, none⟩) n c) n xs) : RowT w g t xs := by
  obtain ⟨hl, h⟩ := h
  rcases h with ⟨h0, _⟩ | ⟨g', cap, cur, hv, _, hh, hnc, _, hsz, ht⟩
  · cases h0
  · cases hv
    refine ⟨cur.toList.drop (n * 1), ?_⟩
    unfold Blk
    rw [← ht, List.take_append_drop]
    exact hh
end Go.Proofs.YteokeghenjobaaaGreatDoor
namespace Go.Proofs.YteokeghenjobaaaGreatDoor
open Go.ChangeShapes Go.WideShapes Go.ChangeAt Go.RowKit
def bkC (b : Bk) : List Value := [.int .i64 b.id, .string b.nm]
def ntC (n : Nt) (vt vs : Value) : List Value := [.int .i64 n.id, .int .i64 n.bk, .string n.nm, vt, vs]
def strV (s : ByteArray) : Value := .string s
structure NtIn (w : World) (B : Nat) (n : Nt) (e : List Value) : Prop where
  ex : ∃ (At : Option Addr) (ct : Nat) (As : Option Addr) (cs : Nat), e = ntC n (.slice At n.tg.length ct) (.slice As n.sh.length cs) ∧ Sl w B At (n.tg.map strV) ∧ Sl w B As (n.sh.map (Value.int .i64)) ∧ n.tg.length ≤ ct ∧ ct ≤ maxLen ∧ n.sh.length ≤ cs ∧ cs ≤ maxLen
theorem NtIn.below {w w' : World} {B : Nat} {n : Nt} {e : List Value} (h : NtIn w B n e) (hb : Below B w w') : NtIn w' B n e := by
  obtain ⟨At, ct, As, cs, h1, h2, h3, h4⟩ := h
  exact ⟨At, ct, As, cs, h1, h2.below hb, h3.below hb, h4⟩
theorem Sl.mono_ {w : World} {B B' : Nat} {A : Option Addr} {vs : List Value} (h : Sl w B A vs) (hB : B ≤ B') : Sl w B' A vs := by
  rcases h with h | ⟨b, o, e, hl, hc⟩
  · exact Or.inl h
  · exact Or.inr ⟨b, o, e, by omega, hc⟩
theorem NtIn.mono {w : World} {B B' : Nat} {n : Nt} {e : List Value} (h : NtIn w B n e) (hB : B ≤ B') : NtIn w B' n e := by
  obtain ⟨At, ct, As, cs, h1, h2, h3, h4⟩ := h
  exact ⟨At, ct, As, cs, h1, h2.mono_ hB, h3.mono_ hB, h4⟩
structure NtsIn (w : World) (B : Nat) (A : Option Addr) (ts : List Nt) : Prop where
  ex : ∃ es : List (List Value), es.length = ts.length ∧ SlE 5 w B A es ∧ ∀ (k : Nat) (n : Nt) (e : List Value), ts[k]? = some n → es[k]? = some e → NtIn w B n e
theorem NtsIn.below {w w' : World} {B : Nat} {A : Option Addr} {ts : List Nt} (h : NtsIn w B A ts) (hb : Below B w w') : NtsIn w' B A ts := by
  obtain ⟨es, h1, h2, h3⟩ := h
  exact ⟨es, h1, h2.below hb, fun k n e hn he => (h3 k n e hn he).below hb⟩
theorem NtsIn.mono {w : World} {B B' : Nat} {A : Option Addr} {ts : List Nt} (h : NtsIn w B A ts) (hB : B ≤ B') : NtsIn w B' A ts := by
  obtain ⟨es, h1, h2, h3⟩ := h
  exact ⟨es, h1, h2.mono hB, fun k n e hn he => (h3 k n e hn he).mono hB⟩
def BksIn (w : World) (B : Nat) (A : Option Addr) (bs : List Bk) : Prop := SlE 2 w B A (bs.map bkC)
structure ShR (w : World) (B : Nat) (v : Value) (s : Sf) : Prop where
  ex : ∃ (Ab : Option Addr) (cb : Nat) (An : Option Addr) (cn : Nat), v = .agg #[.int .i64 s.nb, .int .i64 s.nn, .int .i64 s.ns, .slice Ab s.bs.length cb, .slice An s.ts.length cn] ∧ BksIn w B Ab s.bs ∧ NtsIn w B An s.ts ∧ s.bs.length ≤ cb ∧ cb ≤ maxLen ∧ s.ts.length ≤ cn ∧ cn ≤ maxLen
theorem ShR.below {w w' : World} {B : Nat} {v : Value} {s : Sf} (h : ShR w B v s) (hb : Below B w w') : ShR w' B v s := by
  obtain ⟨Ab, cb, An, cn, h1, h2, h3, h4⟩ := h
  exact ⟨Ab, cb, An, cn, h1, SlE.below h2 hb, h3.below hb, h4⟩
theorem ShR.mono {w : World} {B B' : Nat} {v : Value} {s : Sf} (h : ShR w B v s) (hB : B ≤ B') : ShR w B' v s := by
  obtain ⟨Ab, cb, An, cn, h1, h2, h3, h4⟩ := h
  exact ⟨Ab, cb, An, cn, h1, SlE.mono h2 hB, h3.mono hB, h4⟩
theorem ShR.next {w w' : World} {v : Value} {s : Sf} (h : ShR w w.heap.size v s) (hb : Below w.heap.size w w') : ShR w' w'.heap.size v s := (h.below hb).mono hb.size
structure SfOk (s : Sf) : Prop where
  nb : i64in s.nb
  nn : i64in s.nn
  ns : i64in s.ns
  bs : ∀ b ∈ s.bs, i64in b.id
  ts : ∀ n ∈ s.ts, i64in n.id ∧ i64in n.bk ∧ ∀ x ∈ n.sh, i64in x
theorem cells1i : Tryz.prog.cellsOf 3 = 1 := by kernel_rfl
theorem cells1s : Tryz.prog.cellsOf 9 = 1 := by kernel_rfl
theorem cells2 : Tryz.prog.cellsOf 60 = 2 := by kernel_rfl
theorem cells5n : Tryz.prog.cellsOf 54 = 5 := by kernel_rfl
theorem cells5s : Tryz.prog.cellsOf 25 = 5 := by kernel_rfl
theorem sl_of_ones {w : World} {B : Nat} {A : Option Addr} {es : List (List Value)} {vs : List Value} (h : SlE 1 w B A es) (hl : vs.length = es.length) (hv : ∀ (k : Nat) (e : List Value) (v : Value), es[k]? = some e → vs[k]? = some v → e = [v]) : Sl w B A vs := by
  rcases h with rfl | ⟨b, o, e, hlt, hc⟩
  · exact Or.inl (by simpa using hl)
  · refine Or.inr ⟨b, o, e, hlt, fun k v hk => ?_⟩
    have hk' : k < es.length := by
      have := (List.getElem?_eq_some_iff.1 hk).1
      omega
    have he := List.getElem?_eq_getElem hk'
    have h1 := hv k _ v he hk
    have h2 := hc k _ he 0 v (by rw [h1]; rfl)
    simpa using h2
theorem row_ints {w : World} {n : Nat} {cs : List Value} (h : OkT Tryz.prog w (n + 2) 52 cs) : ∃ (A : Option Addr) (c : Nat) (zs : List Int), cs = [.slice A zs.length c] ∧ zs.length ≤ c ∧ c ≤ maxLen ∧ Sl w w.heap.size A (zs.map (Value.int .i64)) ∧ ∀ z ∈ zs, i64in z := by
  obtain ⟨A, len, c, es, rfl, hl, hc, hm, hs, he⟩ := okT_row (n := n + 1) Tryz.underlying52 (Nat.lt_of_lt_of_eq Nat.one_pos cells1i.symm) h
  rw [cells1i] at hs
  obtain ⟨zs, hzl, hz⟩ := choose_list (R := fun (e : List Value) (z : Int) => e = [.int .i64 z] ∧ i64in z) es (fun x hx => by
    obtain ⟨z, h1, h2⟩ := okT_int Tryz.underlying3 (he x hx).2
    exact ⟨z, h1, i64in_of h2⟩)
  subst hl
  refine ⟨A, c, zs, by rw [hzl], by omega, hm, sl_of_ones hs (by rw [List.length_map, hzl]) (fun k e v hk hv => ?_), fun z hz' => ?_⟩
  · rw [List.getElem?_map] at hv
    cases hq : zs[k]? with
    | none => rw [hq] at hv; cases hv
    | some z =>
      rw [hq] at hv
      cases hv
      exact (hz k e z hk hq).1
  · obtain ⟨k, hk, rfl⟩ := List.mem_iff_getElem.1 hz'
    exact (hz k _ _ (List.getElem?_eq_getElem (by omega)) (List.getElem?_eq_getElem hk)).2
theorem row_strs {w : World} {n : Nat} {cs : List Value} (h : OkT Tryz.prog w (n + 2) 38 cs) : ∃ (A : Option Addr) (c : Nat) (ss : List ByteArray), cs = [.slice A ss.length c] ∧ ss.length ≤ c ∧ c ≤ maxLen ∧ Sl w w.heap.size A (ss.map strV) := by
  obtain ⟨A, len, c, es, rfl, hl, hc, hm, hs, he⟩ := okT_row (n := n + 1) Tryz.underlying38 (Nat.lt_of_lt_of_eq Nat.one_pos cells1s.symm) h
  rw [cells1s] at hs
  obtain ⟨zs, hzl, hz⟩ := choose_list (R := fun (e : List Value) (z : ByteArray) => e = [.string z]) es (fun x hx => by
    obtain ⟨z, h1, -⟩ := okT_str Tryz.underlying9 (he x hx).2
    exact ⟨z, h1⟩)
  subst hl
  refine ⟨A, c, zs, by rw [hzl], by omega, hm, sl_of_ones hs (by rw [List.length_map, hzl]) (fun k e v hk hv => ?_)⟩
  rw [List.getElem?_map] at hv
  cases hq : zs[k]? with
  | none => rw [hq] at hv; cases hv
  | some z =>
    rw [hq] at hv
    cases hv
    exact hz k e z hk hq
end Go.Proofs.YteokeghenjobaaaGreatDoor
namespace Go.Proofs.YteokeghenjobaaaGreatDoor
open Go.ChangeShapes Go.WideShapes Go.ChangeAt Go.RowKit
theorem cells1bs : Tryz.prog.cellsOf 22 = 1 := by kernel_rfl
theorem cells1ns : Tryz.prog.cellsOf 23 = 1 := by kernel_rfl
theorem cells1ss : Tryz.prog.cellsOf 38 = 1 := by kernel_rfl
theorem cells1is : Tryz.prog.cellsOf 52 = 1 := by kernel_rfl
theorem len2 {α : Type} {l : List α} (h : l.length = 2) : ∃ a b, l = [a, b] := by
  match l, h with
  | [a, b], _ => exact ⟨a, b, rfl⟩
theorem len5 {α : Type} {l : List α} (h : l.length = 5) : ∃ a b c d e, l = [a, b, c, d, e] := by
  match l, h with
  | [a, b, c, d, e], _ => exact ⟨a, b, c, d, e, rfl⟩
theorem book_ok {w : World} {n : Nat} {x : List Value} (h : OkT Tryz.prog w (n + 2) 60 x) : ∃ b : Bk, x = bkC b ∧ i64in b.id := by
  obtain ⟨hl, hf⟩ := okT_struct (n := n + 1) Tryz.underlying60 h
  rw [cells2] at hl
  obtain ⟨a, b, rfl⟩ := len2 hl
  have h0 : OkT Tryz.prog w (n + 1) 3 ((([a, b] : List Value).drop 0).take (Tryz.prog.cellsOf 3)) := hf 0 _ rfl
  have h1 : OkT Tryz.prog w (n + 1) 9 ((([a, b] : List Value).drop 1).take (Tryz.prog.cellsOf 9)) := hf 1 _ rfl
  rw [cells1i] at h0
  rw [cells1s] at h1
  obtain ⟨z, hz, hw⟩ := okT_int (n := n) Tryz.underlying3 h0
  obtain ⟨s, hs, -⟩ := okT_str (n := n) Tryz.underlying9 h1
  simp at hz hs
  subst hz hs
  exact ⟨⟨z, s⟩, rfl, i64in_of hw⟩
theorem note_ok {w : World} {n : Nat} {x : List Value} (h : OkT Tryz.prog w (n + 3) 54 x) : ∃ nt : Nt, NtIn w w.heap.size nt x ∧ i64in nt.id ∧ i64in nt.bk ∧ ∀ z ∈ nt.sh, i64in z := by
  obtain ⟨hl, hf⟩ := okT_struct (n := n + 2) Tryz.underlying54 h
  rw [cells5n] at hl
  obtain ⟨a, b, c, d, e, rfl⟩ := len5 hl
  have h0 : OkT Tryz.prog w (n + 2) 3 ((([a, b, c, d, e] : List Value).drop 0).take (Tryz.prog.cellsOf 3)) := hf 0 _ rfl
  have h1 : OkT Tryz.prog w (n + 2) 3 ((([a, b, c, d, e] : List Value).drop 1).take (Tryz.prog.cellsOf 3)) := hf 1 _ rfl
  have h2 : OkT Tryz.prog w (n + 2) 9 ((([a, b, c, d, e] : List Value).drop 2).take (Tryz.prog.cellsOf 9)) := hf 2 _ rfl
  have h3 : OkT Tryz.prog w (n + 2) 38 ((([a, b, c, d, e] : List Value).drop 3).take (Tryz.prog.cellsOf 38)) := hf 3 _ rfl
  have h4 : OkT Tryz.prog w (n + 2) 52 ((([a, b, c, d, e] : List Value).drop 4).take (Tryz.prog.cellsOf 52)) := hf 4 _ rfl
  rw [cells1i] at h0 h1
  rw [cells1s] at h2
  rw [cells1ss] at h3
  rw [cells1is] at h4
  obtain ⟨z, hz, hw⟩ := okT_int (n := n + 1) Tryz.underlying3 h0
  obtain ⟨y, hy, hw1⟩ := okT_int (n := n + 1) Tryz.underlying3 h1
  obtain ⟨s, hs, -⟩ := okT_str (n := n + 1) Tryz.underlying9 h2
  obtain ⟨At, ct, tg, ht, ht1, ht2, ht3⟩ := row_strs (n := n) h3
  obtain ⟨As, cs, sh, hsh, hs1, hs2, hs3, hs4⟩ := row_ints (n := n) h4
  simp at hz hy hs ht hsh
  subst hz hy hs ht hsh
  exact ⟨⟨z, y, s, tg, sh⟩, ⟨At, ct, As, cs, rfl, ht3, hs3, ht1, ht2, hs1, hs2⟩, i64in_of hw, i64in_of hw1, hs4⟩
theorem shelf_ok {w : World} {n : Nat} {cs : List Value} (h : OkT Tryz.prog w (n + 5) 25 cs) : ∃ s : Sf, ShR w w.heap.size (.agg cs.toArray) s ∧ SfOk s := by
  obtain ⟨hl, hf⟩ := okT_struct (n := n + 4) Tryz.underlying25 h
  rw [cells5s] at hl
  obtain ⟨a, b, c, d, e, rfl⟩ := len5 hl
  have h0 : OkT Tryz.prog w (n + 4) 3 ((([a, b, c, d, e] : List Value).drop 0).take (Tryz.prog.cellsOf 3)) := hf 0 _ rfl
  have h1 : OkT Tryz.prog w (n + 4) 3 ((([a, b, c, d, e] : List Value).drop 1).take (Tryz.prog.cellsOf 3)) := hf 1 _ rfl
  have h2 : OkT Tryz.prog w (n + 4) 3 ((([a, b, c, d, e] : List Value).drop 2).take (Tryz.prog.cellsOf 3)) := hf 2 _ rfl
  have h3 : OkT Tryz.prog w (n + 4) 22 ((([a, b, c, d, e] : List Value).drop 3).take (Tryz.prog.cellsOf 22)) := hf 3 _ rfl
  have h4 : OkT Tryz.prog w (n + 4) 23 ((([a, b, c, d, e] : List Value).drop 4).take (Tryz.prog.cellsOf 23)) := hf 4 _ rfl
  rw [cells1i] at h0 h1 h2
  rw [cells1bs] at h3
  rw [cells1ns] at h4
  obtain ⟨x, hx, wx⟩ := okT_int (n := n + 3) Tryz.underlying3 h0
  obtain ⟨y, hy, wy⟩ := okT_int (n := n + 3) Tryz.underlying3 h1
  obtain ⟨z, hz, wz⟩ := okT_int (n := n + 3) Tryz.underlying3 h2
  obtain ⟨Ab, lb, cb, eb, hb, lb1, lb2, lb3, sb, ob⟩ := okT_row (n := n + 3) Tryz.underlying22 (Nat.lt_of_lt_of_eq (by decide : 0 < 2) cells2.symm) h3
  obtain ⟨An, ln, cn, en, hn, ln1, ln2, ln3, sn, on⟩ := okT_row (n := n + 3) Tryz.underlying23 (Nat.lt_of_lt_of_eq (by decide : 0 < 5) cells5n.symm) h4
  rw [cells2] at sb
  rw [cells5n] at sn
  obtain ⟨bs, hbl, hbr⟩ := choose_list (R := fun (e : List Value) (b : Bk) => e = bkC b ∧ i64in b.id) eb (fun x hx => book_ok (n := n + 1) (ob x hx).2)
  obtain ⟨ts, htl, htr⟩ := choose_list (R := fun (e : List Value) (nt : Nt) => NtIn w w.heap.size nt e ∧ i64in nt.id ∧ i64in nt.bk ∧ ∀ z ∈ nt.sh, i64in z) en (fun x hx => note_ok (n := n) (on x hx).2)
  simp at hx hy hz hb hn
  subst hx hy hz hb hn lb1 ln1
  have heb : eb = bs.map bkC := by
    apply List.ext_getElem?
    intro k
    rw [List.getElem?_map]
    rcases Nat.lt_or_ge k eb.length with hk | hk
    · rw [List.getElem?_eq_getElem hk, List.getElem?_eq_getElem (by omega)]
      rw [(hbr k _ _ (List.getElem?_eq_getElem hk) (List.getElem?_eq_getElem (by omega))).1]
      rfl
    · rw [List.getElem?_eq_none hk, List.getElem?_eq_none (by omega)]
      rfl
  refine ⟨⟨x, y, z, bs, ts⟩, ⟨Ab, cb, An, cn, by rw [hbl, htl], ?_, ⟨en, htl.symm, sn, fun k nt e h1 h2 => (htr k e nt h2 h1).1⟩, by dsimp only; omega, lb3, by dsimp only; omega, ln3⟩, ⟨i64in_of wx, i64in_of wy, i64in_of wz, fun b hb => ?_, fun nt hn => ?_⟩⟩
  · show SlE 2 _ _ _ (bs.map bkC)
    rw [← heb]
    exact sb
  · obtain ⟨k, hk, rfl⟩ := List.mem_iff_getElem.1 hb
    have hk' : k < bs.length := hk
    exact (hbr k _ _ (List.getElem?_eq_getElem (by omega)) (List.getElem?_eq_getElem hk)).2
  · obtain ⟨k, hk, rfl⟩ := List.mem_iff_getElem.1 hn
    have hk' : k < ts.length := hk
    exact (htr k _ _ (List.getElem?_eq_getElem (by omega)) (List.getElem?_eq_getElem hk)).2
end Go.Proofs.YteokeghenjobaaaGreatDoor
namespace Go.Proofs.YteokeghenjobaaaGreatDoor
open Go.ChangeShapes Go.WideShapes Go.ChangeAt Go.RowKit
attribute [local go_sem ↓] Go.wp_at_zero Go.wp_at_succ
theorem idxP_at {α : Type} {p : α → Bool} {l : List α} {k : Nat} {x : α} (h : (l.take k).any p = false) (hk : l[k]? = some x) (hp : p x = true) : idxP p l = (k : Int) := by
  have hf : l.findIdx? p = some k := by
    rw [List.findIdx?_eq_some_iff_getElem]
    obtain ⟨hlt, hx⟩ := List.getElem?_eq_some_iff.1 hk
    refine ⟨hlt, by rw [hx]; exact hp, fun j hj => ?_⟩
    have := List.any_eq_false.1 h (l[j]'(by omega)) (List.mem_take_iff_getElem.2 ⟨j, by omega, rfl⟩)
    simpa using this
  unfold idxP
  rw [hf]
theorem idxP_no {α : Type} {p : α → Bool} {l : List α} (h : l.any p = false) : idxP p l = -1 := by
  have hf : l.findIdx? p = none := by
    rw [List.findIdx?_eq_none_iff]
    intro x hx
    simpa using List.any_eq_false.1 h x hx
  unfold idxP
  rw [hf]
theorem any_next {α : Type} {p : α → Bool} {l : List α} {k : Nat} {x : α} (h : (l.take k).any p = false) (hk : l[k]? = some x) (hp : p x = false) : (l.take (k + 1)).any p = false := by
  rw [List.take_add_one, hk, List.any_append, h]
  simp [hp]
theorem idxP_ge {α : Type} (p : α → Bool) (l : List α) : decide (0 ≤ idxP p l) = l.any p := by
  cases h : l.any p
  · rw [idxP_no h]
    rfl
  · unfold idxP
    cases hf : l.findIdx? p with
    | none =>
      rw [List.findIdx?_eq_none_iff] at hf
      rw [List.any_eq_true] at h
      obtain ⟨x, hx, hp⟩ := h
      rw [hf x hx] at hp
      cases hp
    | some i => simp
theorem idxP_lt {α : Type} (p : α → Bool) (l : List α) : -1 ≤ idxP p l ∧ idxP p l < (l.length : Int) := by
  unfold idxP
  cases hf : l.findIdx? p with
  | none => dsimp only; omega
  | some i =>
    have := (List.findIdx?_eq_some_iff_getElem.1 hf).1
    dsimp only
    omega
theorem cl_book (b : Bk) (x : Int) (g0 : Nat) (w : World) (c0 : w.cell? ⟨g0, 0, none⟩ = some (.int .i64 x)) (l0 : g0 < w.heap.size) (T : Bool) (hT : (b.id == x) = T) :
    Calls Tryz.prog 72 #[.agg #[.int .i64 b.id, .string b.nm], .pointer (some ⟨g0, 0, none⟩)] w fun e' w' => e' = .returned (.bool T) ∧ Below w.heap.size w w' := by
  subst hT
  go_enter Tryz.func72, Tryz.ntmps72
  go_wp2
  go_ret
  exact ⟨rfl, (Below.refl _ _).alloc (Nat.le_refl _) _⟩
theorem cl_note (n : Nt) (vt vs : Value) (x : Int) (g0 : Nat) (w : World) (c0 : w.cell? ⟨g0, 0, none⟩ = some (.int .i64 x)) (l0 : g0 < w.heap.size) (T : Bool) (hT : (n.id == x) = T) :
    Calls Tryz.prog 115 #[.agg #[.int .i64 n.id, .int .i64 n.bk, .string n.nm, vt, vs], .pointer (some ⟨g0, 0, none⟩)] w fun e' w' => e' = .returned (.bool T) ∧ Below w.heap.size w w' := by
  subst hT
  go_enter Tryz.func115, Tryz.ntmps115
  go_wp2
  go_ret
  exact ⟨rfl, (Below.refl _ _).alloc (Nat.le_refl _) _⟩
theorem cl_bookT (b : Bk) (x : ByteArray) (y : Int) (g0 g1 : Nat) (w : World) (c0 : w.cell? ⟨g0, 0, none⟩ = some (.string x)) (l0 : g0 < w.heap.size) (c1 : w.cell? ⟨g1, 0, none⟩ = some (.int .i64 y)) (l1 : g1 < w.heap.size) (T : Bool) (hT : (sameS b.nm x && b.id != y) = T) :
    Calls Tryz.prog 144 #[.agg #[.int .i64 b.id, .string b.nm], .pointer (some ⟨g0, 0, none⟩), .pointer (some ⟨g1, 0, none⟩)] w fun e' w' => e' = .returned (.bool T) ∧ Below w.heap.size w w' := by
  rcases (by cases hq : (b.nm.toList == x.toList) <;> simp : (b.nm.toList == x.toList) = true ∨ (b.nm.toList == x.toList) = false) with h0 | h0
  · skip
    rcases (by cases hq : (b.id != y) <;> simp : (b.id != y) = true ∨ (b.id != y) = false) with h1 | h1
    · skip
      subst hT
      go_enter Tryz.func144, Tryz.ntmps144
      go_wp2
      go_ret
      refine ⟨?_, (Below.refl _ _).alloc (Nat.le_refl _) _⟩
      simp [sameS, h0, h1]
    · skip
      subst hT
      go_enter Tryz.func144, Tryz.ntmps144
      go_wp2
      go_ret
      refine ⟨?_, (Below.refl _ _).alloc (Nat.le_refl _) _⟩
      simp [sameS, h0, h1]
  · skip
    rcases (by cases hq : (b.id != y) <;> simp : (b.id != y) = true ∨ (b.id != y) = false) with h1 | h1
    · skip
      subst hT
      go_enter Tryz.func144, Tryz.ntmps144
      go_wp2
      go_ret
      refine ⟨?_, (Below.refl _ _).alloc (Nat.le_refl _) _⟩
      simp [sameS, h0, h1]
    · skip
      subst hT
      go_enter Tryz.func144, Tryz.ntmps144
      go_wp2
      go_ret
      refine ⟨?_, (Below.refl _ _).alloc (Nat.le_refl _) _⟩
      simp [sameS, h0, h1]
theorem cl_noteT (n : Nt) (vt vs : Value) (z : Int) (x : ByteArray) (y : Int) (g0 g1 g2 : Nat) (w : World) (c0 : w.cell? ⟨g0, 0, none⟩ = some (.int .i64 z)) (l0 : g0 < w.heap.size) (c1 : w.cell? ⟨g1, 0, none⟩ = some (.string x)) (l1 : g1 < w.heap.size) (c2 : w.cell? ⟨g2, 0, none⟩ = some (.int .i64 y)) (l2 : g2 < w.heap.size) (T : Bool) (hT : (n.bk == z && (sameS n.nm x && n.id != y)) = T) :
    Calls Tryz.prog 166 #[.agg #[.int .i64 n.id, .int .i64 n.bk, .string n.nm, vt, vs], .pointer (some ⟨g0, 0, none⟩), .pointer (some ⟨g1, 0, none⟩), .pointer (some ⟨g2, 0, none⟩)] w fun e' w' => e' = .returned (.bool T) ∧ Below w.heap.size w w' := by
  rcases (by cases hq : (n.bk == z) <;> simp : (n.bk == z) = true ∨ (n.bk == z) = false) with h0 | h0
  · skip
    rcases (by cases hq : (n.nm.toList == x.toList) <;> simp : (n.nm.toList == x.toList) = true ∨ (n.nm.toList == x.toList) = false) with h1 | h1
    · skip
      rcases (by cases hq : (n.id != y) <;> simp : (n.id != y) = true ∨ (n.id != y) = false) with h2 | h2
      · skip
        subst hT
        go_enter Tryz.func166, Tryz.ntmps166
        go_wp2
        go_ret
        refine ⟨?_, (Below.refl _ _).alloc (Nat.le_refl _) _⟩
        simp [sameS, h0, h1, h2]
      · skip
        subst hT
        go_enter Tryz.func166, Tryz.ntmps166
        go_wp2
        go_ret
        refine ⟨?_, (Below.refl _ _).alloc (Nat.le_refl _) _⟩
        simp [sameS, h0, h1, h2]
    · skip
      rcases (by cases hq : (n.id != y) <;> simp : (n.id != y) = true ∨ (n.id != y) = false) with h2 | h2
      · skip
        subst hT
        go_enter Tryz.func166, Tryz.ntmps166
        go_wp2
        go_ret
        refine ⟨?_, (Below.refl _ _).alloc (Nat.le_refl _) _⟩
        simp [sameS, h0, h1, h2]
      · skip
        subst hT
        go_enter Tryz.func166, Tryz.ntmps166
        go_wp2
        go_ret
        refine ⟨?_, (Below.refl _ _).alloc (Nat.le_refl _) _⟩
        simp [sameS, h0, h1, h2]
  · skip
    rcases (by cases hq : (n.nm.toList == x.toList) <;> simp : (n.nm.toList == x.toList) = true ∨ (n.nm.toList == x.toList) = false) with h1 | h1
    · skip
      rcases (by cases hq : (n.id != y) <;> simp : (n.id != y) = true ∨ (n.id != y) = false) with h2 | h2
      · skip
        subst hT
        go_enter Tryz.func166, Tryz.ntmps166
        go_wp2
        go_ret
        refine ⟨?_, (Below.refl _ _).alloc (Nat.le_refl _) _⟩
        simp [sameS, h0, h1, h2]
      · skip
        subst hT
        go_enter Tryz.func166, Tryz.ntmps166
        go_wp2
        go_ret
        refine ⟨?_, (Below.refl _ _).alloc (Nat.le_refl _) _⟩
        simp [sameS, h0, h1, h2]
    · skip
      rcases (by cases hq : (n.id != y) <;> simp : (n.id != y) = true ∨ (n.id != y) = false) with h2 | h2
      · skip
        subst hT
        go_enter Tryz.func166, Tryz.ntmps166
        go_wp2
        go_ret
        refine ⟨?_, (Below.refl _ _).alloc (Nat.le_refl _) _⟩
        simp [sameS, h0, h1, h2]
      · skip
        subst hT
        go_enter Tryz.func166, Tryz.ntmps166
        go_wp2
        go_ret
        refine ⟨?_, (Below.refl _ _).alloc (Nat.le_refl _) _⟩
        simp [sameS, h0, h1, h2]
end Go.Proofs.YteokeghenjobaaaGreatDoor
namespace Go.Proofs.YteokeghenjobaaaGreatDoor
open Go.ChangeShapes Go.WideShapes Go.ChangeAt Go.RowKit
attribute [local go_sem ↓] Go.wp_at_zero Go.wp_at_succ
theorem ix_book (bs : List Bk) (A : Option Addr) (cp : Nat) (x : Int) (g0 : Nat) (w : World) (hS : BksIn w w.heap.size A bs) (hc : bs.length ≤ cp) (hm : cp ≤ maxLen) (c0 : w.cell? ⟨g0, 0, none⟩ = some (.int .i64 x)) (l0 : g0 < w.heap.size) :
    Calls Tryz.prog 71 #[.slice A bs.length cp, .func (.func 72) #[] #[.pointer (some ⟨g0, 0, none⟩)]] w fun e' w' => e' = .returned (.int .i64 (idxP (fun x_ : Bk => x_.id == x) bs)) ∧ Below w.heap.size w w' := by
  have HB0 : Below w.heap.size w w := Below.refl _ _
  have hlm : bs.length ≤ 9223372036854775807 := by have h0 : cp ≤ maxLen := hm; unfold maxLen at h0; omega
  obtain ⟨n, hn⟩ : ∃ n, bs.length = n := ⟨_, rfl⟩
  rw [hn] at hc hlm ⊢
  have HN := Lib.hid hn
  clear hn
  go_enter Tryz.func71, Tryz.ntmps71
  go_wp2_with fail
  go_loopw [8] (fun i wr => ∃ k : Nat, k ≤ n ∧ i = .int .i64 k ∧ (bs.take k).any (fun x_ : Bk => x_.id == x) = false ∧ Below w.heap.size w wr) (fun i _ => n - (intOf i).toNat)
  case atStart => exact ⟨0, by omega, rfl, rfl, HB0⟩
  case round =>
    obtain ⟨k, hk, rfl, hq, HBr⟩ := hrel
    clear HB0
    have HQ := Lib.hid hq
    clear hq
    by_cases hlt : k < n
    · have hlx : k < bs.length := by have := HN.out; omega
      have i0 : (0 : Int) ≤ (k : Int) := by omega
      have i1 : (k : Int) < (n : Int) := by omega
      obtain ⟨b0, hx⟩ : ∃ x, bs[k]? = some x := ⟨_, List.getElem?_eq_getElem hlx⟩
      obtain ⟨b1, o1, rfl, r1, q1⟩ := SlE.at_ hS (by rw [List.length_map]; omega)
      have he : (bs.map bkC)[k]? = some (bkC b0) := by rw [List.getElem?_map, hx]; rfl
      have y0 : wr.cell? ⟨b1, o1 + k * 2 + 0, none⟩ = some (.int .i64 b0.id) := (HBr.cell (p := ⟨b1, _, none⟩) r1).trans (q1 k _ he 0 _ rfl)
      have y1 : wr.cell? ⟨b1, o1 + k * 2 + 1, none⟩ = some (.string b0.nm) := (HBr.cell (p := ⟨b1, _, none⟩) r1).trans (q1 k _ he 1 _ rfl)
      have d0 : wr.cell? ⟨g0, 0, none⟩ = some (.int .i64 x) := (HBr.cell (p := ⟨g0, 0, none⟩) l0).trans c0
      have m0 : g0 < wr.heap.size := by have := HBr.size; omega
      simp only [Nat.add_zero] at y0
      have HX := Lib.hid hx
      have HE := Lib.hid he
      clear hx he q1
      rcases (by cases hq : (b0.id == x) <;> simp : (b0.id == x) = true ∨ (b0.id == x) = false) with hp | hp
      · have HP := Lib.hid hp
        go_wp2_with (go_at_call 72; ((with_reducible refine (cl_book b0 x g0 _ d0 m0 _ hp).mono ?_); rintro e' wN ⟨rfl, hb3⟩; have HBr := btr HBr HBr.size hb3; clear hb3))
        go_ret
        exact ⟨by rw [idxP_at HQ.out HX.out HP.out]; rfl, HBr⟩
      · have HP := Lib.hid hp
        go_wp2_with (go_at_call 72; ((with_reducible refine (cl_book b0 x g0 _ d0 m0 _ hp).mono ?_); rintro e' wN ⟨rfl, hb3⟩; have HBr := btr HBr HBr.size hb3; clear hb3))
        go_roundw
        case rel => exact ⟨k + 1, by omega, by go_num, any_next HQ.out HX.out HP.out, HBr⟩
        case measure => simp [intOf]; omega
    · have hjn : k = n := by omega
      subst hjn
      go_wp2_with fail
      go_ret
      refine ⟨?_, HBr⟩
      rw [idxP_no (by have := HQ.out; rwa [List.take_of_length_le (by rw [HN.out]; exact Nat.le_refl _)] at this)]
      rfl
theorem ix_note (ts : List Nt) (A : Option Addr) (cp : Nat) (x : Int) (g0 : Nat) (w : World) (hS : NtsIn w w.heap.size A ts) (hc : ts.length ≤ cp) (hm : cp ≤ maxLen) (c0 : w.cell? ⟨g0, 0, none⟩ = some (.int .i64 x)) (l0 : g0 < w.heap.size) :
    Calls Tryz.prog 114 #[.slice A ts.length cp, .func (.func 115) #[] #[.pointer (some ⟨g0, 0, none⟩)]] w fun e' w' => e' = .returned (.int .i64 (idxP (fun x_ : Nt => x_.id == x) ts)) ∧ Below w.heap.size w w' := by
  have HB0 : Below w.heap.size w w := Below.refl _ _
  obtain ⟨es, hel, hse, hnt⟩ := hS.ex
  clear hS
  have hlm : ts.length ≤ 9223372036854775807 := by have h0 : cp ≤ maxLen := hm; unfold maxLen at h0; omega
  obtain ⟨n, hn⟩ : ∃ n, ts.length = n := ⟨_, rfl⟩
  rw [hn] at hc hlm ⊢
  have HN := Lib.hid hn
  clear hn
  go_enter Tryz.func114, Tryz.ntmps114
  go_wp2_with fail
  go_loopw [8] (fun i wr => ∃ k : Nat, k ≤ n ∧ i = .int .i64 k ∧ (ts.take k).any (fun x_ : Nt => x_.id == x) = false ∧ Below w.heap.size w wr) (fun i _ => n - (intOf i).toNat)
  case atStart => exact ⟨0, by omega, rfl, rfl, HB0⟩
  case round =>
    obtain ⟨k, hk, rfl, hq, HBr⟩ := hrel
    clear HB0
    have HQ := Lib.hid hq
    clear hq
    by_cases hlt : k < n
    · have hlx : k < ts.length := by have := HN.out; omega
      have i0 : (0 : Int) ≤ (k : Int) := by omega
      have i1 : (k : Int) < (n : Int) := by omega
      obtain ⟨n0, hx⟩ : ∃ x, ts[k]? = some x := ⟨_, List.getElem?_eq_getElem hlx⟩
      obtain ⟨e0, he⟩ : ∃ e, es[k]? = some e := ⟨_, List.getElem?_eq_getElem (by omega)⟩
      obtain ⟨At, ct, As, cs, rfl, -⟩ := (hnt k n0 e0 hx he).ex
      obtain ⟨b1, o1, rfl, r1, q1⟩ := hse.at_ (by omega)
      have y0 : wr.cell? ⟨b1, o1 + k * 5 + 0, none⟩ = some (.int .i64 n0.id) := (HBr.cell (p := ⟨b1, _, none⟩) r1).trans (q1 k _ he 0 _ rfl)
      have y1 : wr.cell? ⟨b1, o1 + k * 5 + 1, none⟩ = some (.int .i64 n0.bk) := (HBr.cell (p := ⟨b1, _, none⟩) r1).trans (q1 k _ he 1 _ rfl)
      have y2 : wr.cell? ⟨b1, o1 + k * 5 + 2, none⟩ = some (.string n0.nm) := (HBr.cell (p := ⟨b1, _, none⟩) r1).trans (q1 k _ he 2 _ rfl)
      have y3 : wr.cell? ⟨b1, o1 + k * 5 + 3, none⟩ = some (.slice At n0.tg.length ct) := (HBr.cell (p := ⟨b1, _, none⟩) r1).trans (q1 k _ he 3 _ rfl)
      have y4 : wr.cell? ⟨b1, o1 + k * 5 + 4, none⟩ = some (.slice As n0.sh.length cs) := (HBr.cell (p := ⟨b1, _, none⟩) r1).trans (q1 k _ he 4 _ rfl)
      have d0 : wr.cell? ⟨g0, 0, none⟩ = some (.int .i64 x) := (HBr.cell (p := ⟨g0, 0, none⟩) l0).trans c0
      have m0 : g0 < wr.heap.size := by have := HBr.size; omega
      simp only [Nat.add_zero] at y0
      have HX := Lib.hid hx
      have HE := Lib.hid he
      clear hx he q1
      rcases (by cases hq : (n0.id == x) <;> simp : (n0.id == x) = true ∨ (n0.id == x) = false) with hp | hp
      · have HP := Lib.hid hp
        go_wp2_with (go_at_call 115; ((with_reducible refine (cl_note n0 _ _ x g0 _ d0 m0 _ hp).mono ?_); rintro e' wN ⟨rfl, hb3⟩; have HBr := btr HBr HBr.size hb3; clear hb3))
        go_ret
        exact ⟨by rw [idxP_at HQ.out HX.out HP.out]; rfl, HBr⟩
      · have HP := Lib.hid hp
        go_wp2_with (go_at_call 115; ((with_reducible refine (cl_note n0 _ _ x g0 _ d0 m0 _ hp).mono ?_); rintro e' wN ⟨rfl, hb3⟩; have HBr := btr HBr HBr.size hb3; clear hb3))
        go_roundw
        case rel => exact ⟨k + 1, by omega, by go_num, any_next HQ.out HX.out HP.out, HBr⟩
        case measure => simp [intOf]; omega
    · have hjn : k = n := by omega
      subst hjn
      go_wp2_with fail
      go_ret
      refine ⟨?_, HBr⟩
      rw [idxP_no (by have := HQ.out; rwa [List.take_of_length_le (by rw [HN.out]; exact Nat.le_refl _)] at this)]
      rfl
theorem ix_bookT (bs : List Bk) (A : Option Addr) (cp : Nat) (x : ByteArray) (y : Int) (g0 g1 : Nat) (w : World) (hS : BksIn w w.heap.size A bs) (hc : bs.length ≤ cp) (hm : cp ≤ maxLen) (c0 : w.cell? ⟨g0, 0, none⟩ = some (.string x)) (l0 : g0 < w.heap.size) (c1 : w.cell? ⟨g1, 0, none⟩ = some (.int .i64 y)) (l1 : g1 < w.heap.size) :
    Calls Tryz.prog 71 #[.slice A bs.length cp, .func (.func 144) #[] #[.pointer (some ⟨g0, 0, none⟩), .pointer (some ⟨g1, 0, none⟩)]] w fun e' w' => e' = .returned (.int .i64 (idxP (fun x_ : Bk => sameS x_.nm x && x_.id != y) bs)) ∧ Below w.heap.size w w' := by
  have HB0 : Below w.heap.size w w := Below.refl _ _
  have hlm : bs.length ≤ 9223372036854775807 := by have h0 : cp ≤ maxLen := hm; unfold maxLen at h0; omega
  obtain ⟨n, hn⟩ : ∃ n, bs.length = n := ⟨_, rfl⟩
  rw [hn] at hc hlm ⊢
  have HN := Lib.hid hn
  clear hn
  go_enter Tryz.func71, Tryz.ntmps71
  go_wp2_with fail
  go_loopw [8] (fun i wr => ∃ k : Nat, k ≤ n ∧ i = .int .i64 k ∧ (bs.take k).any (fun x_ : Bk => sameS x_.nm x && x_.id != y) = false ∧ Below w.heap.size w wr) (fun i _ => n - (intOf i).toNat)
  case atStart => exact ⟨0, by omega, rfl, rfl, HB0⟩
  case round =>
    obtain ⟨k, hk, rfl, hq, HBr⟩ := hrel
    clear HB0
    have HQ := Lib.hid hq
    clear hq
    by_cases hlt : k < n
    · have hlx : k < bs.length := by have := HN.out; omega
      have i0 : (0 : Int) ≤ (k : Int) := by omega
      have i1 : (k : Int) < (n : Int) := by omega
      obtain ⟨b0, hx⟩ : ∃ x, bs[k]? = some x := ⟨_, List.getElem?_eq_getElem hlx⟩
      obtain ⟨b1, o1, rfl, r1, q1⟩ := SlE.at_ hS (by rw [List.length_map]; omega)
      have he : (bs.map bkC)[k]? = some (bkC b0) := by rw [List.getElem?_map, hx]; rfl
      have y0 : wr.cell? ⟨b1, o1 + k * 2 + 0, none⟩ = some (.int .i64 b0.id) := (HBr.cell (p := ⟨b1, _, none⟩) r1).trans (q1 k _ he 0 _ rfl)
      have y1 : wr.cell? ⟨b1, o1 + k * 2 + 1, none⟩ = some (.string b0.nm) := (HBr.cell (p := ⟨b1, _, none⟩) r1).trans (q1 k _ he 1 _ rfl)
      have d0 : wr.cell? ⟨g0, 0, none⟩ = some (.string x) := (HBr.cell (p := ⟨g0, 0, none⟩) l0).trans c0
      have m0 : g0 < wr.heap.size := by have := HBr.size; omega
      have d1 : wr.cell? ⟨g1, 0, none⟩ = some (.int .i64 y) := (HBr.cell (p := ⟨g1, 0, none⟩) l1).trans c1
      have m1 : g1 < wr.heap.size := by have := HBr.size; omega
      simp only [Nat.add_zero] at y0
      have HX := Lib.hid hx
      have HE := Lib.hid he
      clear hx he q1
      rcases (by cases hq : (sameS b0.nm x && b0.id != y) <;> simp : (sameS b0.nm x && b0.id != y) = true ∨ (sameS b0.nm x && b0.id != y) = false) with hp | hp
      · have HP := Lib.hid hp
        go_wp2_with (go_at_call 144; ((with_reducible refine (cl_bookT b0 x y g0 g1 _ d0 m0 d1 m1 _ hp).mono ?_); rintro e' wN ⟨rfl, hb3⟩; have HBr := btr HBr HBr.size hb3; clear hb3))
        go_ret
        exact ⟨by rw [idxP_at HQ.out HX.out HP.out]; rfl, HBr⟩
      · have HP := Lib.hid hp
        go_wp2_with (go_at_call 144; ((with_reducible refine (cl_bookT b0 x y g0 g1 _ d0 m0 d1 m1 _ hp).mono ?_); rintro e' wN ⟨rfl, hb3⟩; have HBr := btr HBr HBr.size hb3; clear hb3))
        go_roundw
        case rel => exact ⟨k + 1, by omega, by go_num, any_next HQ.out HX.out HP.out, HBr⟩
        case measure => simp [intOf]; omega
    · have hjn : k = n := by omega
      subst hjn
      go_wp2_with fail
      go_ret
      refine ⟨?_, HBr⟩
      rw [idxP_no (by have := HQ.out; rwa [List.take_of_length_le (by rw [HN.out]; exact Nat.le_refl _)] at this)]
      rfl
theorem ix_noteT (ts : List Nt) (A : Option Addr) (cp : Nat) (z : Int) (x : ByteArray) (y : Int) (g0 g1 g2 : Nat) (w : World) (hS : NtsIn w w.heap.size A ts) (hc : ts.length ≤ cp) (hm : cp ≤ maxLen) (c0 : w.cell? ⟨g0, 0, none⟩ = some (.int .i64 z)) (l0 : g0 < w.heap.size) (c1 : w.cell? ⟨g1, 0, none⟩ = some (.string x)) (l1 : g1 < w.heap.size) (c2 : w.cell? ⟨g2, 0, none⟩ = some (.int .i64 y)) (l2 : g2 < w.heap.size) :
    Calls Tryz.prog 114 #[.slice A ts.length cp, .func (.func 166) #[] #[.pointer (some ⟨g0, 0, none⟩), .pointer (some ⟨g1, 0, none⟩), .pointer (some ⟨g2, 0, none⟩)]] w fun e' w' => e' = .returned (.int .i64 (idxP (fun x_ : Nt => x_.bk == z && (sameS x_.nm x && x_.id != y)) ts)) ∧ Below w.heap.size w w' := by
  have HB0 : Below w.heap.size w w := Below.refl _ _
  obtain ⟨es, hel, hse, hnt⟩ := hS.ex
  clear hS
  have hlm : ts.length ≤ 9223372036854775807 := by have h0 : cp ≤ maxLen := hm; unfold maxLen at h0; omega
  obtain ⟨n, hn⟩ : ∃ n, ts.length = n := ⟨_, rfl⟩
  rw [hn] at hc hlm ⊢
  have HN := Lib.hid hn
  clear hn
  go_enter Tryz.func114, Tryz.ntmps114
  go_wp2_with fail
  go_loopw [8] (fun i wr => ∃ k : Nat, k ≤ n ∧ i = .int .i64 k ∧ (ts.take k).any (fun x_ : Nt => x_.bk == z && (sameS x_.nm x && x_.id != y)) = false ∧ Below w.heap.size w wr) (fun i _ => n - (intOf i).toNat)
  case atStart => exact ⟨0, by omega, rfl, rfl, HB0⟩
  case round =>
    obtain ⟨k, hk, rfl, hq, HBr⟩ := hrel
    clear HB0
    have HQ := Lib.hid hq
    clear hq
    by_cases hlt : k < n
    · have hlx : k < ts.length := by have := HN.out; omega
      have i0 : (0 : Int) ≤ (k : Int) := by omega
      have i1 : (k : Int) < (n : Int) := by omega
      obtain ⟨n0, hx⟩ : ∃ x, ts[k]? = some x := ⟨_, List.getElem?_eq_getElem hlx⟩
      obtain ⟨e0, he⟩ : ∃ e, es[k]? = some e := ⟨_, List.getElem?_eq_getElem (by omega)⟩
      obtain ⟨At, ct, As, cs, rfl, -⟩ := (hnt k n0 e0 hx he).ex
      obtain ⟨b1, o1, rfl, r1, q1⟩ := hse.at_ (by omega)
      have y0 : wr.cell? ⟨b1, o1 + k * 5 + 0, none⟩ = some (.int .i64 n0.id) := (HBr.cell (p := ⟨b1, _, none⟩) r1).trans (q1 k _ he 0 _ rfl)
      have y1 : wr.cell? ⟨b1, o1 + k * 5 + 1, none⟩ = some (.int .i64 n0.bk) := (HBr.cell (p := ⟨b1, _, none⟩) r1).trans (q1 k _ he 1 _ rfl)
      have y2 : wr.cell? ⟨b1, o1 + k * 5 + 2, none⟩ = some (.string n0.nm) := (HBr.cell (p := ⟨b1, _, none⟩) r1).trans (q1 k _ he 2 _ rfl)
      have y3 : wr.cell? ⟨b1, o1 + k * 5 + 3, none⟩ = some (.slice At n0.tg.length ct) := (HBr.cell (p := ⟨b1, _, none⟩) r1).trans (q1 k _ he 3 _ rfl)
      have y4 : wr.cell? ⟨b1, o1 + k * 5 + 4, none⟩ = some (.slice As n0.sh.length cs) := (HBr.cell (p := ⟨b1, _, none⟩) r1).trans (q1 k _ he 4 _ rfl)
      have d0 : wr.cell? ⟨g0, 0, none⟩ = some (.int .i64 z) := (HBr.cell (p := ⟨g0, 0, none⟩) l0).trans c0
      have m0 : g0 < wr.heap.size := by have := HBr.size; omega
      have d1 : wr.cell? ⟨g1, 0, none⟩ = some (.string x) := (HBr.cell (p := ⟨g1, 0, none⟩) l1).trans c1
      have m1 : g1 < wr.heap.size := by have := HBr.size; omega
      have d2 : wr.cell? ⟨g2, 0, none⟩ = some (.int .i64 y) := (HBr.cell (p := ⟨g2, 0, none⟩) l2).trans c2
      have m2 : g2 < wr.heap.size := by have := HBr.size; omega
      simp only [Nat.add_zero] at y0
      have HX := Lib.hid hx
      have HE := Lib.hid he
      clear hx he q1
      rcases (by cases hq : (n0.bk == z && (sameS n0.nm x && n0.id != y)) <;> simp : (n0.bk == z && (sameS n0.nm x && n0.id != y)) = true ∨ (n0.bk == z && (sameS n0.nm x && n0.id != y)) = false) with hp | hp
      · have HP := Lib.hid hp
        go_wp2_with (go_at_call 166; ((with_reducible refine (cl_noteT n0 _ _ z x y g0 g1 g2 _ d0 m0 d1 m1 d2 m2 _ hp).mono ?_); rintro e' wN ⟨rfl, hb3⟩; have HBr := btr HBr HBr.size hb3; clear hb3))
        go_ret
        exact ⟨by rw [idxP_at HQ.out HX.out HP.out]; rfl, HBr⟩
      · have HP := Lib.hid hp
        go_wp2_with (go_at_call 166; ((with_reducible refine (cl_noteT n0 _ _ z x y g0 g1 g2 _ d0 m0 d1 m1 d2 m2 _ hp).mono ?_); rintro e' wN ⟨rfl, hb3⟩; have HBr := btr HBr HBr.size hb3; clear hb3))
        go_roundw
        case rel => exact ⟨k + 1, by omega, by go_num, any_next HQ.out HX.out HP.out, HBr⟩
        case measure => simp [intOf]; omega
    · have hjn : k = n := by omega
      subst hjn
      go_wp2_with fail
      go_ret
      refine ⟨?_, HBr⟩
      rw [idxP_no (by have := HQ.out; rwa [List.take_of_length_le (by rw [HN.out]; exact Nat.le_refl _)] at this)]
      rfl
theorem ct_bookT (bs : List Bk) (A : Option Addr) (cp : Nat) (x : ByteArray) (y : Int) (g0 g1 : Nat) (w : World) (hS : BksIn w w.heap.size A bs) (hc : bs.length ≤ cp) (hm : cp ≤ maxLen) (c0 : w.cell? ⟨g0, 0, none⟩ = some (.string x)) (l0 : g0 < w.heap.size) (c1 : w.cell? ⟨g1, 0, none⟩ = some (.int .i64 y)) (l1 : g1 < w.heap.size) (T : Bool) (hT : bs.any (fun x_ : Bk => sameS x_.nm x && x_.id != y) = T) :
    Calls Tryz.prog 143 #[.slice A bs.length cp, .func (.func 144) #[] #[.pointer (some ⟨g0, 0, none⟩), .pointer (some ⟨g1, 0, none⟩)]] w fun e' w' => e' = .returned (.bool T) ∧ Below w.heap.size w w' := by
  have hi : decide (0 ≤ idxP (fun x_ : Bk => sameS x_.nm x && x_.id != y) bs) = T := (idxP_ge _ _).trans hT
  obtain ⟨I, hI⟩ : ∃ I, idxP (fun x_ : Bk => sameS x_.nm x && x_.id != y) bs = I := ⟨_, rfl⟩
  have HI := Lib.hid hI
  rw [hI] at hi
  have HT := Lib.hid hi
  clear hi hI hT
  go_enter Tryz.func143, Tryz.ntmps143
  go_wp2_with (go_at_call 71; ((with_reducible refine (ix_bookT bs A cp x y g0 g1 _ hS hc hm c0 l0 c1 l1).mono ?_); rintro e' wN ⟨rfl, hb3⟩; rw [HI.out]))
  go_ret
  exact ⟨by rw [← HT.out]; rfl, hb3⟩
theorem ct_noteT (ts : List Nt) (A : Option Addr) (cp : Nat) (z : Int) (x : ByteArray) (y : Int) (g0 g1 g2 : Nat) (w : World) (hS : NtsIn w w.heap.size A ts) (hc : ts.length ≤ cp) (hm : cp ≤ maxLen) (c0 : w.cell? ⟨g0, 0, none⟩ = some (.int .i64 z)) (l0 : g0 < w.heap.size) (c1 : w.cell? ⟨g1, 0, none⟩ = some (.string x)) (l1 : g1 < w.heap.size) (c2 : w.cell? ⟨g2, 0, none⟩ = some (.int .i64 y)) (l2 : g2 < w.heap.size) (T : Bool) (hT : ts.any (fun x_ : Nt => x_.bk == z && (sameS x_.nm x && x_.id != y)) = T) :
    Calls Tryz.prog 165 #[.slice A ts.length cp, .func (.func 166) #[] #[.pointer (some ⟨g0, 0, none⟩), .pointer (some ⟨g1, 0, none⟩), .pointer (some ⟨g2, 0, none⟩)]] w fun e' w' => e' = .returned (.bool T) ∧ Below w.heap.size w w' := by
  have hi : decide (0 ≤ idxP (fun x_ : Nt => x_.bk == z && (sameS x_.nm x && x_.id != y)) ts) = T := (idxP_ge _ _).trans hT
  obtain ⟨I, hI⟩ : ∃ I, idxP (fun x_ : Nt => x_.bk == z && (sameS x_.nm x && x_.id != y)) ts = I := ⟨_, rfl⟩
  have HI := Lib.hid hI
  rw [hI] at hi
  have HT := Lib.hid hi
  clear hi hI hT
  go_enter Tryz.func165, Tryz.ntmps165
  go_wp2_with (go_at_call 114; ((with_reducible refine (ix_noteT ts A cp z x y g0 g1 g2 _ hS hc hm c0 l0 c1 l1 c2 l2).mono ?_); rintro e' wN ⟨rfl, hb3⟩; rw [HI.out]))
  go_ret
  exact ⟨by rw [← HT.out]; rfl, hb3⟩
end Go.Proofs.YteokeghenjobaaaGreatDoor
namespace Go.Proofs.YteokeghenjobaaaGreatDoor
open Go.ChangeShapes Go.WideShapes Go.ChangeAt Go.RowKit
attribute [local go_sem ↓] Go.wp_at_zero Go.wp_at_succ
theorem pBook_any (s : Sf) (v : Value) (x : Int) (w : World) (hS : ShR w w.heap.size v s) :
    Calls Tryz.prog 36 #[v, .int .i64 x] w fun e' w' => e' = .returned (.int .i64 (bookAt s x)) ∧ Below w.heap.size w w' := by
  obtain ⟨Ab, cb, An, cn, rfl, hB, hN, hcb, hmb, hcn, hmn⟩ := hS.ex
  clear hS
  have HB : Below w.heap.size w ((w.alloc (.cells #[.int .i64 s.nb, .int .i64 s.nn, .int .i64 s.ns, .slice Ab s.bs.length cb, .slice An s.ts.length cn] 25)).alloc (.cells #[.int .i64 x] 3)) := (((Below.refl w.heap.size w).alloc (by first | (simp; done) | (simp; omega)) _).alloc (by first | (simp; done) | (simp; omega)) _)
  have c0 : World.cell? ((w.alloc (.cells #[.int .i64 s.nb, .int .i64 s.nn, .int .i64 s.ns, .slice Ab s.bs.length cb, .slice An s.ts.length cn] 25)).alloc (.cells #[.int .i64 x] 3)) ⟨w.heap.size + 1, 0, none⟩ = some (.int .i64 x) := by
    have := Blk.cell_ (Blk.new_ (w.alloc (.cells #[.int .i64 s.nb, .int .i64 s.nn, .int .i64 s.ns, .slice Ab s.bs.length cb, .slice An s.ts.length cn] 25)) 3 #[.int .i64 x]) 0
    first | (simp; done) | simpa using this
  have l0 : w.heap.size + 1 < (((w.alloc (.cells #[.int .i64 s.nb, .int .i64 s.nn, .int .i64 s.ns, .slice Ab s.bs.length cb, .slice An s.ts.length cn] 25)).alloc (.cells #[.int .i64 x] 3))).heap.size := by simp
  have hR : BksIn ((w.alloc (.cells #[.int .i64 s.nb, .int .i64 s.nn, .int .i64 s.ns, .slice Ab s.bs.length cb, .slice An s.ts.length cn] 25)).alloc (.cells #[.int .i64 x] 3)) (((w.alloc (.cells #[.int .i64 s.nb, .int .i64 s.nn, .int .i64 s.ns, .slice Ab s.bs.length cb, .slice An s.ts.length cn] 25)).alloc (.cells #[.int .i64 x] 3))).heap.size Ab s.bs := SlE.next hB HB
  go_enter Tryz.func36, Tryz.ntmps36
  go_wp2_with (go_at_call 71; ((with_reducible refine (ix_book s.bs Ab cb x _ _ hR hcb hmb c0 l0).mono ?_); rintro e' wN ⟨rfl, hb3⟩))
  go_ret
  exact ⟨rfl, btr HB HB.size hb3⟩
theorem pNote_any (s : Sf) (v : Value) (x : Int) (w : World) (hS : ShR w w.heap.size v s) :
    Calls Tryz.prog 84 #[v, .int .i64 x] w fun e' w' => e' = .returned (.int .i64 (noteAt s x)) ∧ Below w.heap.size w w' := by
  obtain ⟨Ab, cb, An, cn, rfl, hB, hN, hcb, hmb, hcn, hmn⟩ := hS.ex
  clear hS
  have HB : Below w.heap.size w ((w.alloc (.cells #[.int .i64 s.nb, .int .i64 s.nn, .int .i64 s.ns, .slice Ab s.bs.length cb, .slice An s.ts.length cn] 25)).alloc (.cells #[.int .i64 x] 3)) := (((Below.refl w.heap.size w).alloc (by first | (simp; done) | (simp; omega)) _).alloc (by first | (simp; done) | (simp; omega)) _)
  have c0 : World.cell? ((w.alloc (.cells #[.int .i64 s.nb, .int .i64 s.nn, .int .i64 s.ns, .slice Ab s.bs.length cb, .slice An s.ts.length cn] 25)).alloc (.cells #[.int .i64 x] 3)) ⟨w.heap.size + 1, 0, none⟩ = some (.int .i64 x) := by
    have := Blk.cell_ (Blk.new_ (w.alloc (.cells #[.int .i64 s.nb, .int .i64 s.nn, .int .i64 s.ns, .slice Ab s.bs.length cb, .slice An s.ts.length cn] 25)) 3 #[.int .i64 x]) 0
    first | (simp; done) | simpa using this
  have l0 : w.heap.size + 1 < (((w.alloc (.cells #[.int .i64 s.nb, .int .i64 s.nn, .int .i64 s.ns, .slice Ab s.bs.length cb, .slice An s.ts.length cn] 25)).alloc (.cells #[.int .i64 x] 3))).heap.size := by simp
  have hR := (hN.below HB).mono HB.size
  go_enter Tryz.func84, Tryz.ntmps84
  go_wp2_with (go_at_call 114; ((with_reducible refine (ix_note s.ts An cn x _ _ hR hcn hmn c0 l0).mono ?_); rintro e' wN ⟨rfl, hb3⟩))
  go_ret
  exact ⟨rfl, btr HB HB.size hb3⟩
theorem bTaken_any (s : Sf) (v : Value) (x : ByteArray) (y : Int) (w : World) (hS : ShR w w.heap.size v s) (T : Bool) (hT : bookTk s x y = T) :
    Calls Tryz.prog 94 #[v, .string x, .int .i64 y] w fun e' w' => e' = .returned (.bool T) ∧ Below w.heap.size w w' := by
  obtain ⟨Ab, cb, An, cn, rfl, hB, hN, hcb, hmb, hcn, hmn⟩ := hS.ex
  clear hS
  have HB : Below w.heap.size w (((w.alloc (.cells #[.int .i64 s.nb, .int .i64 s.nn, .int .i64 s.ns, .slice Ab s.bs.length cb, .slice An s.ts.length cn] 25)).alloc (.cells #[.string x] 9)).alloc (.cells #[.int .i64 y] 3)) := ((((Below.refl w.heap.size w).alloc (by first | (simp; done) | (simp; omega)) _).alloc (by first | (simp; done) | (simp; omega)) _).alloc (by first | (simp; done) | (simp; omega)) _)
  have c0 : World.cell? (((w.alloc (.cells #[.int .i64 s.nb, .int .i64 s.nn, .int .i64 s.ns, .slice Ab s.bs.length cb, .slice An s.ts.length cn] 25)).alloc (.cells #[.string x] 9)).alloc (.cells #[.int .i64 y] 3)) ⟨w.heap.size + 1, 0, none⟩ = some (.string x) := by
    have := Blk.cell_ ((Blk.new_ (w.alloc (.cells #[.int .i64 s.nb, .int .i64 s.nn, .int .i64 s.ns, .slice Ab s.bs.length cb, .slice An s.ts.length cn] 25)) 9 #[.string x]).alloc_ (.cells #[.int .i64 y] 3)) 0
    first | (simp; done) | simpa using this
  have l0 : w.heap.size + 1 < ((((w.alloc (.cells #[.int .i64 s.nb, .int .i64 s.nn, .int .i64 s.ns, .slice Ab s.bs.length cb, .slice An s.ts.length cn] 25)).alloc (.cells #[.string x] 9)).alloc (.cells #[.int .i64 y] 3))).heap.size := by simp
  have c1 : World.cell? (((w.alloc (.cells #[.int .i64 s.nb, .int .i64 s.nn, .int .i64 s.ns, .slice Ab s.bs.length cb, .slice An s.ts.length cn] 25)).alloc (.cells #[.string x] 9)).alloc (.cells #[.int .i64 y] 3)) ⟨w.heap.size + 2, 0, none⟩ = some (.int .i64 y) := by
    have := Blk.cell_ (Blk.new_ ((w.alloc (.cells #[.int .i64 s.nb, .int .i64 s.nn, .int .i64 s.ns, .slice Ab s.bs.length cb, .slice An s.ts.length cn] 25)).alloc (.cells #[.string x] 9)) 3 #[.int .i64 y]) 0
    first | (simp; done) | simpa using this
  have l1 : w.heap.size + 2 < ((((w.alloc (.cells #[.int .i64 s.nb, .int .i64 s.nn, .int .i64 s.ns, .slice Ab s.bs.length cb, .slice An s.ts.length cn] 25)).alloc (.cells #[.string x] 9)).alloc (.cells #[.int .i64 y] 3))).heap.size := by simp
  have hR : BksIn (((w.alloc (.cells #[.int .i64 s.nb, .int .i64 s.nn, .int .i64 s.ns, .slice Ab s.bs.length cb, .slice An s.ts.length cn] 25)).alloc (.cells #[.string x] 9)).alloc (.cells #[.int .i64 y] 3)) ((((w.alloc (.cells #[.int .i64 s.nb, .int .i64 s.nn, .int .i64 s.ns, .slice Ab s.bs.length cb, .slice An s.ts.length cn] 25)).alloc (.cells #[.string x] 9)).alloc (.cells #[.int .i64 y] 3))).heap.size Ab s.bs := SlE.next hB HB
  have hT2 : (s.bs.any (fun x_ : Bk => sameS x_.nm x && x_.id != y)) = T := hT
  go_enter Tryz.func94, Tryz.ntmps94
  go_wp2_with (go_at_call 143; ((with_reducible refine (ct_bookT s.bs Ab cb x y _ _ _ hR hcb hmb c0 l0 c1 l1 T hT2).mono ?_); rintro e' wN ⟨rfl, hb3⟩))
  go_ret
  exact ⟨rfl, btr HB HB.size hb3⟩
theorem nTaken_any (s : Sf) (v : Value) (z : Int) (x : ByteArray) (y : Int) (w : World) (hS : ShR w w.heap.size v s) (T : Bool) (hT : noteTk s z x y = T) :
    Calls Tryz.prog 145 #[v, .int .i64 z, .string x, .int .i64 y] w fun e' w' => e' = .returned (.bool T) ∧ Below w.heap.size w w' := by
  obtain ⟨Ab, cb, An, cn, rfl, hB, hN, hcb, hmb, hcn, hmn⟩ := hS.ex
  clear hS
  have HB : Below w.heap.size w ((((w.alloc (.cells #[.int .i64 s.nb, .int .i64 s.nn, .int .i64 s.ns, .slice Ab s.bs.length cb, .slice An s.ts.length cn] 25)).alloc (.cells #[.int .i64 z] 3)).alloc (.cells #[.string x] 9)).alloc (.cells #[.int .i64 y] 3)) := (((((Below.refl w.heap.size w).alloc (by first | (simp; done) | (simp; omega)) _).alloc (by first | (simp; done) | (simp; omega)) _).alloc (by first | (simp; done) | (simp; omega)) _).alloc (by first | (simp; done) | (simp; omega)) _)
  have c0 : World.cell? ((((w.alloc (.cells #[.int .i64 s.nb, .int .i64 s.nn, .int .i64 s.ns, .slice Ab s.bs.length cb, .slice An s.ts.length cn] 25)).alloc (.cells #[.int .i64 z] 3)).alloc (.cells #[.string x] 9)).alloc (.cells #[.int .i64 y] 3)) ⟨w.heap.size + 1, 0, none⟩ = some (.int .i64 z) := by
    have := Blk.cell_ (((Blk.new_ (w.alloc (.cells #[.int .i64 s.nb, .int .i64 s.nn, .int .i64 s.ns, .slice Ab s.bs.length cb, .slice An s.ts.length cn] 25)) 3 #[.int .i64 z]).alloc_ (.cells #[.string x] 9)).alloc_ (.cells #[.int .i64 y] 3)) 0
    first | (simp; done) | simpa using this
  have l0 : w.heap.size + 1 < (((((w.alloc (.cells #[.int .i64 s.nb, .int .i64 s.nn, .int .i64 s.ns, .slice Ab s.bs.length cb, .slice An s.ts.length cn] 25)).alloc (.cells #[.int .i64 z] 3)).alloc (.cells #[.string x] 9)).alloc (.cells #[.int .i64 y] 3))).heap.size := by simp
  have c1 : World.cell? ((((w.alloc (.cells #[.int .i64 s.nb, .int .i64 s.nn, .int .i64 s.ns, .slice Ab s.bs.length cb, .slice An s.ts.length cn] 25)).alloc (.cells #[.int .i64 z] 3)).alloc (.cells #[.string x] 9)).alloc (.cells #[.int .i64 y] 3)) ⟨w.heap.size + 2, 0, none⟩ = some (.string x) := by
    have := Blk.cell_ ((Blk.new_ ((w.alloc (.cells #[.int .i64 s.nb, .int .i64 s.nn, .int .i64 s.ns, .slice Ab s.bs.length cb, .slice An s.ts.length cn] 25)).alloc (.cells #[.int .i64 z] 3)) 9 #[.string x]).alloc_ (.cells #[.int .i64 y] 3)) 0
    first | (simp; done) | simpa using this
  have l1 : w.heap.size + 2 < (((((w.alloc (.cells #[.int .i64 s.nb, .int .i64 s.nn, .int .i64 s.ns, .slice Ab s.bs.length cb, .slice An s.ts.length cn] 25)).alloc (.cells #[.int .i64 z] 3)).alloc (.cells #[.string x] 9)).alloc (.cells #[.int .i64 y] 3))).heap.size := by simp
  have c2 : World.cell? ((((w.alloc (.cells #[.int .i64 s.nb, .int .i64 s.nn, .int .i64 s.ns, .slice Ab s.bs.length cb, .slice An s.ts.length cn] 25)).alloc (.cells #[.int .i64 z] 3)).alloc (.cells #[.string x] 9)).alloc (.cells #[.int .i64 y] 3)) ⟨w.heap.size + 3, 0, none⟩ = some (.int .i64 y) := by
    have := Blk.cell_ (Blk.new_ (((w.alloc (.cells #[.int .i64 s.nb, .int .i64 s.nn, .int .i64 s.ns, .slice Ab s.bs.length cb, .slice An s.ts.length cn] 25)).alloc (.cells #[.int .i64 z] 3)).alloc (.cells #[.string x] 9)) 3 #[.int .i64 y]) 0
    first | (simp; done) | simpa using this
  have l2 : w.heap.size + 3 < (((((w.alloc (.cells #[.int .i64 s.nb, .int .i64 s.nn, .int .i64 s.ns, .slice Ab s.bs.length cb, .slice An s.ts.length cn] 25)).alloc (.cells #[.int .i64 z] 3)).alloc (.cells #[.string x] 9)).alloc (.cells #[.int .i64 y] 3))).heap.size := by simp
  have hR := (hN.below HB).mono HB.size
  have hT2 : (s.ts.any (fun x_ : Nt => x_.bk == z && (sameS x_.nm x && x_.id != y))) = T := hT
  go_enter Tryz.func145, Tryz.ntmps145
  go_wp2_with (go_at_call 165; ((with_reducible refine (ct_noteT s.ts An cn z x y _ _ _ _ hR hcn hmn c0 l0 c1 l1 c2 l2 T hT2).mono ?_); rintro e' wN ⟨rfl, hb3⟩))
  go_ret
  exact ⟨rfl, btr HB HB.size hb3⟩
theorem within_any (x lo hi : Int) (w : World) (T : Bool) (hT : inI x lo hi = T) :
    Calls Tryz.prog 65 #[.int .i64 x, .int .i64 lo, .int .i64 hi] w fun e' w' => e' = .returned (.bool T) ∧ w' = w := by
  subst hT
  rcases (by cases hq : decide (lo ≤ x) <;> simp : decide (lo ≤ x) = true ∨ decide (lo ≤ x) = false) with h0 | h0
  · rcases (by cases hq : decide (x ≤ hi) <;> simp : decide (x ≤ hi) = true ∨ decide (x ≤ hi) = false) with h1 | h1
    · skip
      go_enter Tryz.func65, Tryz.ntmps65
      go_wp2
      go_ret
      exact ⟨by simp [inI, h0, h1], rfl⟩
    · skip
      go_enter Tryz.func65, Tryz.ntmps65
      go_wp2
      go_ret
      exact ⟨by simp [inI, h0, h1], rfl⟩
  · skip
    go_enter Tryz.func65, Tryz.ntmps65
    go_wp2
    go_ret
    exact ⟨by simp [inI, h0], rfl⟩
end Go.Proofs.YteokeghenjobaaaGreatDoor
namespace Go.Proofs.YteokeghenjobaaaGreatDoor
open Go.ChangeShapes Go.WideShapes Go.ChangeAt Go.RowKit
attribute [local go_sem ↓] Go.wp_at_zero Go.wp_at_succ
def RdB (w : World) (B : Nat) (A : Option Addr) (n C : Nat) (vs : List Value) : Prop := vs.length = n * C ∧ (vs = [] ∨ ∃ b off, A = some ⟨b, off, none⟩ ∧ b < B ∧ ∀ j u, vs[j]? = some u → w.cell? ⟨b, off + j, none⟩ = some u)
theorem rdB_sl {w : World} {B : Nat} {A : Option Addr} {vs : List Value} {n : Nat} (h : Sl w B A vs) (hl : vs.length = n) : RdB w B A n 1 vs := by
  refine ⟨by omega, ?_⟩
  rcases h with h | ⟨b, off, e, hlt, hc⟩
  · exact Or.inl h
  · exact Or.inr ⟨b, off, e, hlt, fun j u hu => hc j u hu⟩
theorem flat_getE {C : Nat} : ∀ (es : List (List Value)), (∀ x ∈ es, x.length = C) → ∀ (j : Nat) (u : Value), es.flatten[j]? = some u → ∃ k i x, j = k * C + i ∧ es[k]? = some x ∧ x[i]? = some u
  | [], _, j, u, hu => by simp at hu
  | y :: es, h, j, u, hu => by
    have hy : y.length = C := h y (by simp)
    rw [List.flatten_cons] at hu
    by_cases hj : j < y.length
    · rw [List.getElem?_append_left hj] at hu
      exact ⟨0, j, y, by omega, rfl, hu⟩
    · rw [List.getElem?_append_right (by omega)] at hu
      obtain ⟨k, i, x, e1, e2, e3⟩ := flat_getE es (fun x hx => h x (by simp [hx])) _ u hu
      refine ⟨k + 1, i, x, ?_, by simpa using e2, e3⟩
      rw [Nat.add_mul, Nat.one_mul]
      omega
theorem rdB_slE {C : Nat} {w : World} {B : Nat} {A : Option Addr} {es : List (List Value)} {n : Nat} (h : SlE C w B A es) (hC : ∀ x ∈ es, x.length = C) (hl : es.length = n) : RdB w B A n C es.flatten := by
  refine ⟨?_, ?_⟩
  · subst hl
    clear h
    induction es with
    | nil => simp
    | cons y es ih =>
      rw [List.flatten_cons, List.length_append, ih (fun x hx => hC x (by simp [hx])), hC y (by simp), List.length_cons, Nat.add_mul, Nat.one_mul, Nat.add_comm]
  · rcases h with rfl | ⟨b, off, e, hlt, hc⟩
    · exact Or.inl rfl
    · refine Or.inr ⟨b, off, e, hlt, fun j u hu => ?_⟩
      obtain ⟨k, i, x, rfl, e2, e3⟩ := flat_getE es hC j u hu
      rw [← Nat.add_assoc]
      exact hc k x e2 i u e3
theorem RdB.below {w w' : World} {B : Nat} {A : Option Addr} {n C : Nat} {vs : List Value} (h : RdB w B A n C vs) (hb : Below B w w') : RdB w' B A n C vs := by
  obtain ⟨h1, h2⟩ := h
  refine ⟨h1, ?_⟩
  rcases h2 with h | ⟨b, off, e, hlt, hc⟩
  · exact Or.inl h
  · exact Or.inr ⟨b, off, e, hlt, fun j u hu => (hb.cell (p := ⟨b, off + j, none⟩) hlt).trans (hc j u hu)⟩
theorem own_emptyC (w : World) (e : TypeId) (C : Nat) : (w.alloc (.cells #[] e)).ownsRow w.heap.size e C (.slice (some ⟨w.heap.size, 0, none⟩) 0 0) 0 [] :=
  ⟨by simp, Or.inr ⟨w.heap.size, 0, #[], rfl, Nat.le_refl _, heap_alloc_new w _, by omega, by unfold maxLen; omega, by simp, by simp⟩⟩
theorem info_clStr : (Tryz.prog.info? 9).map (fun i => (i.zero, i.size, i.bytes)) = some (some (.string ByteArray.empty), 1, 16) := by kernel_rfl
theorem nn_clStr (a : Addr) (n c : Nat) (w : World) : (binOp BinOp.eql 38 (.slice (some a) n c) (.slice none 0 0)).run Tryz.prog w = .ok (.bool false) w := by kernel_rfl
theorem clStr (A : Option Addr) (n c : Nat) (vs : List Value) (w : World) (hr : RdB w w.heap.size A n 1 vs) (h1 : ∀ u ∈ vs, u.oneCell' = true) (hlen : n ≤ 100000) :
    Calls Tryz.prog 116 #[.slice A n c] w fun e' w' => ∃ v', e' = .returned v' ∧ w'.ownsRow w.heap.size 9 1 v' n vs ∧ Below w.heap.size w w' := by
  rcases A with _ | ⟨g, o, sp⟩
  · obtain rfl : vs = [] := by
      rcases hr.2 with h | ⟨_, _, e, _⟩
      · exact h
      · cases e
    obtain rfl : n = 0 := by
      have := hr.1
      simp at this
      omega
    have hnil : (binOp BinOp.eql 38 (.slice none 0 c) (.slice none 0 0)).run Tryz.prog w = .ok (.bool true) w := by kernel_rfl
    clear hr h1
    go_enter Tryz.func116, Tryz.ntmps116
    go_wp2
    go_ret
    exact ⟨_, rfl, World.ownsRow_nil _ _ _ _, Below.refl _ _⟩
  · have hnil := nn_clStr ⟨g, o, sp⟩ n c w
    have HR : Rd (w.alloc (.cells #[] 9)) (some ⟨g, o, sp⟩) n 1 vs := by
      refine ⟨hr.1, ?_⟩
      rcases hr.2 with h | ⟨b, off, e, hlt, hc⟩
      · left
        have := hr.1
        rw [h] at this
        simp at this
        omega
      · cases e
        exact Or.inr ⟨g, o, rfl, fun j u hu => (Below.cell (p := ⟨g, o + j, none⟩) ((Below.refl w.heap.size w).alloc (Nat.le_refl _) (.cells #[] 9)) hlt).trans (hc j u hu)⟩
    have H1 := Lib.hid h1
    clear hr h1
    go_enter Tryz.func116, Tryz.ntmps116
    go_upto_region 3 with fail
    refine wp_region_lit ?_
    refine wpList_plain rfl (fun K hK => ?_)
    go_simp
    refine hK _ _ ?_
    clear hK K
    try simp only [Act.put, pz1, pz2, pz3]
    refine wpList_plain rfl (fun K hK => ?_)
    go_simp
    refine hK _ _ ?_
    clear hK K
    try simp only [Act.put, pz1, pz2, pz3]
    obtain ⟨ti0, hi, hz0, hz1, hz2⟩ := info_parts info_clStr
    refine wpList_app _ rfl (.tmp 5) (.tmp 6) _ rfl w.heap.size 9 ti0 _ 1 16 Tryz.underlying38 hi hz0 hz1 hz2 rfl (by decide) (.slice (some ⟨w.heap.size, 0, none⟩) 0 0) 0 [] rfl (own_emptyC w _ _) (some ⟨g, o, sp⟩) n c vs rfl HR H1.out (by unfold maxLen; omega) (by omega) (by simp) ?_
    intro v' w' ho' hg' hv'
    clear hi hz0 hz1 hz2
    rw [Nat.zero_add, List.nil_append] at ho'
    have HG := Lib.hid hg'
    have HO := Lib.hid ho'
    clear hg' ho' hv' hnil
    try simp only [Act.put, pz1, pz2, pz3]
    go_wp2_with fail
    go_ret
    exact ⟨v', rfl, HO.out, ((Below.refl _ _).alloc (Nat.le_refl _) _).grown HG.out (by simp) (fun g' hg'' => by simp [Value.ownBlock] at hg''; omega)⟩
theorem info_clInt : (Tryz.prog.info? 3).map (fun i => (i.zero, i.size, i.bytes)) = some (some (.int .i64 0), 1, 8) := by kernel_rfl
theorem nn_clInt (a : Addr) (n c : Nat) (w : World) : (binOp BinOp.eql 52 (.slice (some a) n c) (.slice none 0 0)).run Tryz.prog w = .ok (.bool false) w := by kernel_rfl
theorem clInt (A : Option Addr) (n c : Nat) (vs : List Value) (w : World) (hr : RdB w w.heap.size A n 1 vs) (h1 : ∀ u ∈ vs, u.oneCell' = true) (hlen : n ≤ 100000) :
    Calls Tryz.prog 117 #[.slice A n c] w fun e' w' => ∃ v', e' = .returned v' ∧ w'.ownsRow w.heap.size 3 1 v' n vs ∧ Below w.heap.size w w' := by
  rcases A with _ | ⟨g, o, sp⟩
  · obtain rfl : vs = [] := by
      rcases hr.2 with h | ⟨_, _, e, _⟩
      · exact h
      · cases e
    obtain rfl : n = 0 := by
      have := hr.1
      simp at this
      omega
    have hnil : (binOp BinOp.eql 52 (.slice none 0 c) (.slice none 0 0)).run Tryz.prog w = .ok (.bool true) w := by kernel_rfl
    clear hr h1
    go_enter Tryz.func117, Tryz.ntmps117
    go_wp2
    go_ret
    exact ⟨_, rfl, World.ownsRow_nil _ _ _ _, Below.refl _ _⟩
  · have hnil := nn_clInt ⟨g, o, sp⟩ n c w
    have HR : Rd (w.alloc (.cells #[] 3)) (some ⟨g, o, sp⟩) n 1 vs := by
      refine ⟨hr.1, ?_⟩
      rcases hr.2 with h | ⟨b, off, e, hlt, hc⟩
      · left
        have := hr.1
        rw [h] at this
        simp at this
        omega
      · cases e
        exact Or.inr ⟨g, o, rfl, fun j u hu => (Below.cell (p := ⟨g, o + j, none⟩) ((Below.refl w.heap.size w).alloc (Nat.le_refl _) (.cells #[] 3)) hlt).trans (hc j u hu)⟩
    have H1 := Lib.hid h1
    clear hr h1
    go_enter Tryz.func117, Tryz.ntmps117
    go_upto_region 3 with fail
    refine wp_region_lit ?_
    refine wpList_plain rfl (fun K hK => ?_)
    go_simp
    refine hK _ _ ?_
    clear hK K
    try simp only [Act.put, pz1, pz2, pz3]
    refine wpList_plain rfl (fun K hK => ?_)
    go_simp
    refine hK _ _ ?_
    clear hK K
    try simp only [Act.put, pz1, pz2, pz3]
    obtain ⟨ti0, hi, hz0, hz1, hz2⟩ := info_parts info_clInt
    refine wpList_app _ rfl (.tmp 5) (.tmp 6) _ rfl w.heap.size 3 ti0 _ 1 8 Tryz.underlying52 hi hz0 hz1 hz2 rfl (by decide) (.slice (some ⟨w.heap.size, 0, none⟩) 0 0) 0 [] rfl (own_emptyC w _ _) (some ⟨g, o, sp⟩) n c vs rfl HR H1.out (by unfold maxLen; omega) (by omega) (by simp) ?_
    intro v' w' ho' hg' hv'
    clear hi hz0 hz1 hz2
    rw [Nat.zero_add, List.nil_append] at ho'
    have HG := Lib.hid hg'
    have HO := Lib.hid ho'
    clear hg' ho' hv' hnil
    try simp only [Act.put, pz1, pz2, pz3]
    go_wp2_with fail
    go_ret
    exact ⟨v', rfl, HO.out, ((Below.refl _ _).alloc (Nat.le_refl _) _).grown HG.out (by simp) (fun g' hg'' => by simp [Value.ownBlock] at hg''; omega)⟩
theorem info_clBk : (Tryz.prog.info? 60).map (fun i => (i.zero, i.size, i.bytes)) = some (some (.agg #[.int .i64 0, .string ByteArray.empty]), 2, 24) := by kernel_rfl
theorem info_clNt : (Tryz.prog.info? 54).map (fun i => (i.zero, i.size, i.bytes)) = some (some (.agg #[.int .i64 0, .int .i64 0, .string ByteArray.empty, .slice none 0 0, .slice none 0 0]), 5, 80) := by kernel_rfl
end Go.Proofs.YteokeghenjobaaaGreatDoor
namespace Go.Proofs.YteokeghenjobaaaGreatDoor
open Go.ChangeShapes Go.WideShapes Go.ChangeAt Go.RowKit
attribute [local go_sem ↓] Go.wp_at_zero Go.wp_at_succ
theorem own_belowW {w w' : World} {base C n : Nat} {e : TypeId} {v : Value} {xs : List Value} (h : w.ownsRow base e C v n xs) (hb : Below w.heap.size w w') : w'.ownsRow base e C v n xs :=
  World.ownsRow.kept h (row := none) ⟨hb.os, hb.tape, hb.output, hb.size, fun k hk _ => hb.block k hk⟩ (by cases v.ownBlock <;> simp)
theorem own_shape {w : World} {base C n : Nat} {e : TypeId} {v : Value} {xs : List Value} (h : w.ownsRow base e C v n xs) : ∃ A c, v = .slice A n c ∧ n ≤ c ∧ c ≤ maxLen := by
  rcases h.2 with ⟨hv, h0⟩ | ⟨g, cap, cur, hv, _, _, hnc, hm, _⟩
  · subst h0
    exact ⟨none, 0, hv, Nat.le_refl _, by unfold maxLen; omega⟩
  · exact ⟨_, cap, hv, hnc, hm⟩
theorem own_base {w : World} {B B' C n : Nat} {e : TypeId} {v : Value} {xs : List Value} (h : w.ownsRow B e C v n xs) (hB : B' ≤ B) : w.ownsRow B' e C v n xs := by
  obtain ⟨h1, h2⟩ := h
  refine ⟨h1, ?_⟩
  rcases h2 with h2 | ⟨g, cap, cur, hv, hb, hr⟩
  · exact Or.inl h2
  · exact Or.inr ⟨g, cap, cur, hv, by omega, hr⟩
theorem own_far {w : World} {base C n : Nat} {e : TypeId} {v : Value} {xs : List Value} (h : w.ownsRow base e C v n xs) {p : Addr} (hp : p.block < base) (u : Value) : (w.setCell p u).ownsRow base e C v n xs := by
  obtain ⟨h1, h2⟩ := h
  refine ⟨h1, ?_⟩
  rcases h2 with h2 | ⟨g, cap, cur, hv, hb, hh, hr⟩
  · exact Or.inl h2
  · exact Or.inr ⟨g, cap, cur, hv, hb, (Below.heap_setCell w p _ g (by omega)).trans hh, hr⟩
theorem cloneNote_any (n : Nt) (At : Option Addr) (ct : Nat) (As : Option Addr) (cs : Nat) (w : World) (hAt : Sl w w.heap.size At (n.tg.map strV)) (hAs : Sl w w.heap.size As (n.sh.map (Value.int .i64))) (h4 : n.tg.length ≤ 100000) (h8 : n.sh.length ≤ 100000) :
    Calls Tryz.prog 85 #[.agg #[.int .i64 n.id, .int .i64 n.bk, .string n.nm, .slice At n.tg.length ct, .slice As n.sh.length cs]] w fun e' w' => ∃ v1 v2, e' = .returned (.agg #[.int .i64 n.id, .int .i64 n.bk, .string n.nm, v1, v2]) ∧ w'.ownsRow w.heap.size 9 1 v1 n.tg.length (n.tg.map strV) ∧ w'.ownsRow w.heap.size 3 1 v2 n.sh.length (n.sh.map (Value.int .i64)) ∧ Below w.heap.size w w' := by
  have HB : Below w.heap.size w ((w.alloc (.cells #[.int .i64 n.id, .int .i64 n.bk, .string n.nm, .slice At n.tg.length ct, .slice As n.sh.length cs] 54)).alloc (.cells #[.int .i64 0, .int .i64 0, .string ⟨#[]⟩, .slice none 0 0, .slice none 0 0] 54)) := (((Below.refl w.heap.size w).alloc (by first | (simp; done) | (simp; omega)) _).alloc (by first | (simp; done) | (simp; omega)) _)
  have B1 : Blk ((w.alloc (.cells #[.int .i64 n.id, .int .i64 n.bk, .string n.nm, .slice At n.tg.length ct, .slice As n.sh.length cs] 54)).alloc (.cells #[.int .i64 0, .int .i64 0, .string ⟨#[]⟩, .slice none 0 0, .slice none 0 0] 54)) w.heap.size 54 #[.int .i64 n.id, .int .i64 n.bk, .string n.nm, .slice At n.tg.length ct, .slice As n.sh.length cs] := (Blk.new_ w 54 #[.int .i64 n.id, .int .i64 n.bk, .string n.nm, .slice At n.tg.length ct, .slice As n.sh.length cs]).alloc_ (.cells #[.int .i64 0, .int .i64 0, .string ⟨#[]⟩, .slice none 0 0, .slice none 0 0] 54)
  have B2 : Blk ((w.alloc (.cells #[.int .i64 n.id, .int .i64 n.bk, .string n.nm, .slice At n.tg.length ct, .slice As n.sh.length cs] 54)).alloc (.cells #[.int .i64 0, .int .i64 0, .string ⟨#[]⟩, .slice none 0 0, .slice none 0 0] 54)) (w.heap.size + 1) 54 #[.int .i64 0, .int .i64 0, .string ⟨#[]⟩, .slice none 0 0, .slice none 0 0] := by
    have := Blk.new_ (w.alloc (.cells #[.int .i64 n.id, .int .i64 n.bk, .string n.nm, .slice At n.tg.length ct, .slice As n.sh.length cs] 54)) 54 #[.int .i64 0, .int .i64 0, .string ⟨#[]⟩, .slice none 0 0, .slice none 0 0]
    simpa using this
  have hs : ((w.alloc (.cells #[.int .i64 n.id, .int .i64 n.bk, .string n.nm, .slice At n.tg.length ct, .slice As n.sh.length cs] 54)).alloc (.cells #[.int .i64 0, .int .i64 0, .string ⟨#[]⟩, .slice none 0 0, .slice none 0 0] 54)).heap.size = w.heap.size + 2 := by simp
  go_enter Tryz.func85, Tryz.ntmps85
  go_upto_region 1 with fail
  obtain ⟨W, hW⟩ : ∃ V : World, V = ((w.alloc (.cells #[.int .i64 n.id, .int .i64 n.bk, .string n.nm, .slice At n.tg.length ct, .slice As n.sh.length cs] 54)).alloc (.cells #[.int .i64 0, .int .i64 0, .string ⟨#[]⟩, .slice none 0 0, .slice none 0 0] 54)) := ⟨_, rfl⟩
  rw [← hW] at HB B1 B2 hs ⊢
  clear hW
  have R1 : RdB W W.heap.size At n.tg.length 1 (n.tg.map strV) := rdB_sl ((hAt.below HB).mono_ HB.size) (by rw [List.length_map])
  have o1 : ∀ u ∈ n.tg.map strV, u.oneCell' = true := fun u hu => by obtain ⟨x, _, rfl⟩ := List.mem_map.1 hu; rfl
  have o2 : ∀ u ∈ n.sh.map (Value.int .i64), u.oneCell' = true := fun u hu => by obtain ⟨x, _, rfl⟩ := List.mem_map.1 hu; rfl
  have k3 := B1.cell_ 3
  have f3 := B1.free 3
  simp at k3
  go_upto_region 2 with (go_at_call 116; ((with_reducible refine (clStr _ _ _ _ _ R1 o1 h4).mono ?_); rintro e' w3 ⟨v1, rfl, ho1, b3⟩; obtain ⟨A3, c3, rfl, hc3, hm3⟩ := own_shape ho1; (have B1 := B1.below b3 B1.lt); (have B2 := B2.below b3 B2.lt); (have HB := btr HB HB.size b3); (have k3' := B1.cell_ 3); (have f3' := B1.free 3); simp at k3'))
  have B1s := B1.set_ 3 (.slice A3 n.tg.length c3)
  have B2s := B2.far (p := ⟨w.heap.size, 3, none⟩) (by show w.heap.size + 1 ≠ w.heap.size; omega) (.slice A3 n.tg.length c3)
  have ho1s := own_far (p := ⟨w.heap.size, 3, none⟩) ho1 (by show w.heap.size < W.heap.size; omega) (.slice A3 n.tg.length c3)
  have HBs := HB.setCell (p := ⟨w.heap.size, 3, none⟩) (Nat.le_refl _) (.slice A3 n.tg.length c3)
  have hz3 : w.heap.size + 2 ≤ w3.heap.size := by have := b3.size; omega
  clear B1 B2 ho1 HB
  obtain ⟨Wb, hWb⟩ : ∃ V : World, V = w3.setCell ⟨w.heap.size, 3, none⟩ (.slice A3 n.tg.length c3) := ⟨_, rfl⟩
  have hzb : Wb.heap.size = w3.heap.size := by rw [hWb]; simp [World.setCell]
  rw [← hWb] at B1s B2s ho1s HBs ⊢
  clear hWb k3' f3'
  simp at B1s
  have R2 : RdB Wb Wb.heap.size As n.sh.length 1 (n.sh.map (Value.int .i64)) := rdB_sl ((hAs.below HBs).mono_ HBs.size) (by rw [List.length_map])
  have k4 := B1s.cell_ 4
  have f4 := B1s.free 4
  simp at k4
  go_upto_region 3 with (go_at_call 117; ((with_reducible refine (clInt _ _ _ _ _ R2 o2 h8).mono ?_); rintro e' w5 ⟨v2, rfl, ho2, b5⟩; obtain ⟨A5, c5, rfl, hc5, hm5⟩ := own_shape ho2; (have B1s := B1s.below b5 B1s.lt); (have B2s := B2s.below b5 B2s.lt); (have HBs := btr HBs HBs.size b5); (have ho1s := own_belowW ho1s b5); (have k4' := B1s.cell_ 4); (have f4' := B1s.free 4); simp at k4'))
  have B1t := B1s.set_ 4 (.slice A5 n.sh.length c5)
  have B2t := B2s.far (p := ⟨w.heap.size, 4, none⟩) (by show w.heap.size + 1 ≠ w.heap.size; omega) (.slice A5 n.sh.length c5)
  have ho1t := own_far (p := ⟨w.heap.size, 4, none⟩) ho1s (by show w.heap.size < W.heap.size; omega) (.slice A5 n.sh.length c5)
  have ho2t := own_far (p := ⟨w.heap.size, 4, none⟩) ho2 (by show w.heap.size < Wb.heap.size; omega) (.slice A5 n.sh.length c5)
  have HBt := HBs.setCell (p := ⟨w.heap.size, 4, none⟩) (Nat.le_refl _) (.slice A5 n.sh.length c5)
  clear B1s B2s ho1s ho2 HBs
  obtain ⟨Wc, hWc⟩ : ∃ V : World, V = w5.setCell ⟨w.heap.size, 4, none⟩ (.slice A5 n.sh.length c5) := ⟨_, rfl⟩
  rw [← hWc] at B1t B2t ho1t ho2t HBt ⊢
  clear hWc k4' f4'
  simp at B1t
  have p0 := B1t.cell_ 0
  have p1 := B1t.cell_ 1
  have p2 := B1t.cell_ 2
  have p3 := B1t.cell_ 3
  have p4 := B1t.cell_ 4
  simp at p0 p1 p2 p3 p4
  have r0 := B2t.cell_ 0
  have r1 := B2t.cell_ 1
  have r2 := B2t.cell_ 2
  have r3 := B2t.cell_ 3
  have r4 := B2t.cell_ 4
  simp at r0 r1 r2 r3 r4
  have t0 := B2t.free 0
  have t1 := B2t.free 1
  have t2 := B2t.free 2
  have t3 := B2t.free 3
  have t4 := B2t.free 4
  go_wp2_with fail
  have B2u := (Blk.set_ (Blk.set_ (Blk.set_ (Blk.set_ (Blk.set_ B2t 0 (.int .i64 n.id)) 1 (.int .i64 n.bk)) 2 (.string n.nm)) 3 (.slice A3 n.tg.length c3)) 4 (.slice A5 n.sh.length c5))
  have ho1u := (own_far (p := ⟨w.heap.size + 1, 4, none⟩) (own_far (p := ⟨w.heap.size + 1, 3, none⟩) (own_far (p := ⟨w.heap.size + 1, 2, none⟩) (own_far (p := ⟨w.heap.size + 1, 1, none⟩) (own_far (p := ⟨w.heap.size + 1, 0, none⟩) ho1t (by show w.heap.size + 1 < W.heap.size; omega) (.int .i64 n.id)) (by show w.heap.size + 1 < W.heap.size; omega) (.int .i64 n.bk)) (by show w.heap.size + 1 < W.heap.size; omega) (.string n.nm)) (by show w.heap.size + 1 < W.heap.size; omega) (.slice A3 n.tg.length c3)) (by show w.heap.size + 1 < W.heap.size; omega) (.slice A5 n.sh.length c5))
  have ho2u := (own_far (p := ⟨w.heap.size + 1, 4, none⟩) (own_far (p := ⟨w.heap.size + 1, 3, none⟩) (own_far (p := ⟨w.heap.size + 1, 2, none⟩) (own_far (p := ⟨w.heap.size + 1, 1, none⟩) (own_far (p := ⟨w.heap.size + 1, 0, none⟩) ho2t (by show w.heap.size + 1 < Wb.heap.size; omega) (.int .i64 n.id)) (by show w.heap.size + 1 < Wb.heap.size; omega) (.int .i64 n.bk)) (by show w.heap.size + 1 < Wb.heap.size; omega) (.string n.nm)) (by show w.heap.size + 1 < Wb.heap.size; omega) (.slice A3 n.tg.length c3)) (by show w.heap.size + 1 < Wb.heap.size; omega) (.slice A5 n.sh.length c5))
  have HBu := (Below.setCell (p := ⟨w.heap.size + 1, 4, none⟩) (Below.setCell (p := ⟨w.heap.size + 1, 3, none⟩) (Below.setCell (p := ⟨w.heap.size + 1, 2, none⟩) (Below.setCell (p := ⟨w.heap.size + 1, 1, none⟩) (Below.setCell (p := ⟨w.heap.size + 1, 0, none⟩) HBt (by show w.heap.size ≤ w.heap.size + 1; omega) (.int .i64 n.id)) (by show w.heap.size ≤ w.heap.size + 1; omega) (.int .i64 n.bk)) (by show w.heap.size ≤ w.heap.size + 1; omega) (.string n.nm)) (by show w.heap.size ≤ w.heap.size + 1; omega) (.slice A3 n.tg.length c3)) (by show w.heap.size ≤ w.heap.size + 1; omega) (.slice A5 n.sh.length c5))
  simp at B2u
  obtain ⟨Wd, hWd⟩ : ∃ V : World, V = (World.setCell (World.setCell (World.setCell (World.setCell (World.setCell Wc ⟨w.heap.size + 1, 0, none⟩ (.int .i64 n.id)) ⟨w.heap.size + 1, 1, none⟩ (.int .i64 n.bk)) ⟨w.heap.size + 1, 2, none⟩ (.string n.nm)) ⟨w.heap.size + 1, 3, none⟩ (.slice A3 n.tg.length c3)) ⟨w.heap.size + 1, 4, none⟩ (.slice A5 n.sh.length c5)) := ⟨_, rfl⟩
  rw [← hWd] at B2u ho1u ho2u HBu ⊢
  clear hWd B2t ho1t ho2t HBt
  have s0 := B2u.cell_ 0
  have s1 := B2u.cell_ 1
  have s2 := B2u.cell_ 2
  have s3 := B2u.cell_ 3
  have s4 := B2u.cell_ 4
  simp at s0 s1 s2 s3 s4
  apply bodyPost_ret (v := .agg #[.int .i64 n.id, .int .i64 n.bk, .string n.nm, .slice A3 n.tg.length c3, .slice A5 n.sh.length c5]) 
  · exact results_cell_row Tryz.results85 _ Wd (w.heap.size + 1) 54 #[.int .i64 n.id, .int .i64 n.bk, .string n.nm, .slice A3 n.tg.length c3, .slice A5 n.sh.length c5] (0, 0) _ rfl B2u Tryz.underlying54 rfl (by kernel_rfl)
  · rfl
  · exact ⟨_, _, rfl, own_base ho1u (by omega), own_base ho2u (by omega), HBu⟩
end Go.Proofs.YteokeghenjobaaaGreatDoor
namespace Go.Proofs.YteokeghenjobaaaGreatDoor
open Go.ChangeShapes Go.WideShapes Go.ChangeAt Go.RowKit
attribute [local go_sem ↓] Go.wp_at_zero Go.wp_at_succ
theorem own_apart {w : World} {b1 b2 C1 C2 n1 n2 : Nat} {e1 e2 : TypeId} {v1 v2 : Value} {x1 x2 : List Value} (h1 : w.ownsRow b1 e1 C1 v1 n1 x1) (h2 : w.ownsRow b2 e2 C2 v2 n2 x2) (hne : e1 ≠ e2) : v1.ownBlock = none ∨ v1.ownBlock ≠ v2.ownBlock := by
  rcases h1.2 with ⟨rfl, _⟩ | ⟨g, c, cu, rfl, _, hh, _⟩
  · exact Or.inl rfl
  · rcases h2.2 with ⟨rfl, _⟩ | ⟨g2, c2, cu2, rfl, _, hh2, _⟩
    · right
      intro h
      cases h
    · right
      intro h
      have : g = g2 := by simpa [Value.ownBlock] using h
      subst this
      rw [hh] at hh2
      simp only [Option.some.injEq, Obj.cells.injEq] at hh2
      exact hne hh2.2.1
theorem flat_at {C : Nat} : ∀ (es : List (List Value)), (∀ x ∈ es, x.length = C) → ∀ (k : Nat) (x : List Value), es[k]? = some x → ∀ j, j < C → es.flatten[k * C + j]? = x[j]?
  | [], _, k, x, h, _, _ => by simp at h
  | y :: es, hC, 0, x, h, j, hj => by
    simp at h
    subst h
    rw [List.flatten_cons, List.getElem?_append_left (by rw [hC y (by simp)]; omega)]
    simp
  | y :: es, hC, k + 1, x, h, j, hj => by
    have hy : y.length = C := hC y (by simp)
    rw [List.flatten_cons, List.getElem?_append_right (by rw [hy, Nat.add_mul]; omega), hy, show (k + 1) * C + j - C = k * C + j by rw [Nat.add_mul]; omega]
    exact flat_at es (fun x hx => hC x (by simp [hx])) k x (by simpa using h) j hj
theorem flat_lenE {C : Nat} : ∀ (es : List (List Value)), (∀ x ∈ es, x.length = C) → es.flatten.length = es.length * C
  | [], _ => by simp
  | y :: es, hC => by rw [List.flatten_cons, List.length_append, flat_lenE es (fun x hx => hC x (by simp [hx])), hC y (by simp), List.length_cons, Nat.add_mul]; omega
theorem sle_of_own {w : World} {base C n c : Nat} {e : TypeId} {A : Option Addr} {es : List (List Value)} (h : w.ownsRow base e C (.slice A n c) n es.flatten) (hC : ∀ x ∈ es, x.length = C) (h0 : 0 < C) : SlE C w w.heap.size A es := by
  rcases h.2 with ⟨hv, hn⟩ | ⟨g, cap, cur, hv, _, hh, hnc, _, hsz, ht⟩
  · left
    have := h.1
    rw [hn, flat_lenE es hC] at this
    cases es with
    | nil => rfl
    | cons y es =>
      exfalso
      rw [List.length_cons, Nat.add_mul] at this
      omega
  · have hA : A = some ⟨g, 0, none⟩ := by injection hv
    subst hA
    have hlt : g < w.heap.size := by
      rcases Nat.lt_or_ge g w.heap.size with hx | hx
      · exact hx
      · rw [Array.getElem?_eq_none hx] at hh
        cases hh
    refine Or.inr ⟨g, 0, rfl, hlt, fun k x hx j u hu => ?_⟩
    have hj : j < C := by
      rw [← hC x (List.mem_of_getElem? hx)]
      exact (List.getElem?_eq_some_iff.1 hu).1
    have h1 := flat_at es hC k x hx j hj
    rw [hu] at h1
    have hlt2 : k * C + j < es.flatten.length := (List.getElem?_eq_some_iff.1 h1).1
    have h2 := h.cellAt (k * C + j) (by rw [← h.1]; exact hlt2)
    rw [h1] at h2
    rw [Nat.zero_add]
    exact h2
def NtW (w : World) (base : Nat) (n : Nt) (e : List Value) : Prop := ∃ vt vs, e = ntC n vt vs ∧ w.ownsRow base 9 1 vt n.tg.length (n.tg.map strV) ∧ w.ownsRow base 3 1 vs n.sh.length (n.sh.map (Value.int .i64))
theorem NtW.len {w : World} {base : Nat} {n : Nt} {e : List Value} (h : NtW w base n e) : e.length = 5 := by
  obtain ⟨vt, vs, rfl, _⟩ := h
  rfl
theorem NtW.toIn {w : World} {base : Nat} {n : Nt} {e : List Value} (h : NtW w base n e) : NtIn w w.heap.size n e := by
  obtain ⟨vt, vs, rfl, h1, h2⟩ := h
  obtain ⟨At, ct, rfl, q1, q2⟩ := own_shape h1
  obtain ⟨As, cs, rfl, q3, q4⟩ := own_shape h2
  exact ⟨At, ct, As, cs, rfl, Sl.of_own h1, Sl.of_own h2, q1, q2, q3, q4⟩
theorem NtW.kept {w w' : World} {base b2 C2 n2 : Nat} {e2 : TypeId} {v2 : Value} {x2 : List Value} {n : Nt} {e : List Value} (h : NtW w base n e) (h2 : w.ownsRow b2 e2 C2 v2 n2 x2) (hg : w.grownBy w' v2.ownBlock) (hs : 9 ≠ e2) (hi : 3 ≠ e2) : NtW w' base n e := by
  obtain ⟨vt, vs, rfl, q1, q2⟩ := h
  exact ⟨vt, vs, rfl, q1.kept hg (own_apart q1 h2 hs), q2.kept hg (own_apart q2 h2 hi)⟩
theorem NtW.below {w w' : World} {base : Nat} {n : Nt} {e : List Value} (h : NtW w base n e) (hb : Below w.heap.size w w') : NtW w' base n e := by
  obtain ⟨vt, vs, rfl, q1, q2⟩ := h
  exact ⟨vt, vs, rfl, own_belowW q1 hb, own_belowW q2 hb⟩
theorem NtW.far {w : World} {base : Nat} {n : Nt} {e : List Value} (h : NtW w base n e) {p : Addr} (hp : p.block < base) (u : Value) : NtW (w.setCell p u) base n e := by
  obtain ⟨vt, vs, rfl, q1, q2⟩ := h
  exact ⟨vt, vs, rfl, own_far q1 hp u, own_far q2 hp u⟩
structure ShW (w : World) (base : Nat) (v : Value) (s : Sf) : Prop where
  ex : ∃ (vb vn : Value) (es : List (List Value)), v = .agg #[.int .i64 s.nb, .int .i64 s.nn, .int .i64 s.ns, vb, vn] ∧ w.ownsRow base 60 2 vb s.bs.length (s.bs.map bkC).flatten ∧ es.length = s.ts.length ∧ w.ownsRow base 54 5 vn s.ts.length es.flatten ∧ ∀ (k : Nat) (n : Nt) (e : List Value), s.ts[k]? = some n → es[k]? = some e → NtW w base n e
theorem es_five {w : World} {base : Nat} {ts : List Nt} {es : List (List Value)} (hl : es.length = ts.length) (h : ∀ (k : Nat) (n : Nt) (e : List Value), ts[k]? = some n → es[k]? = some e → NtW w base n e) : ∀ x ∈ es, x.length = 5 := by
  intro x hx
  obtain ⟨k, hk, rfl⟩ := List.mem_iff_getElem.1 hx
  exact (h k _ _ (List.getElem?_eq_getElem (by omega)) (List.getElem?_eq_getElem hk)).len
theorem bkC_two (bs : List Bk) : ∀ x ∈ bs.map bkC, x.length = 2 := by
  intro x hx
  obtain ⟨b, _, rfl⟩ := List.mem_map.1 hx
  rfl
theorem ShW.toR {w : World} {base : Nat} {v : Value} {s : Sf} (h : ShW w base v s) : ShR w w.heap.size v s := by
  obtain ⟨vb, vn, es, rfl, h1, h2, h3, h4⟩ := h
  obtain ⟨Ab, cb, rfl, q1, q2⟩ := own_shape h1
  obtain ⟨An, cn, rfl, q3, q4⟩ := own_shape h3
  have h5 := es_five h2 h4
  exact ⟨Ab, cb, An, cn, rfl, sle_of_own h1 (bkC_two _) (by decide), ⟨es, h2, sle_of_own h3 h5 (by decide), fun k n e a b => (h4 k n e a b).toIn⟩, q1, q2, q3, q4⟩
theorem ShW.below {w w' : World} {base : Nat} {v : Value} {s : Sf} (h : ShW w base v s) (hb : Below w.heap.size w w') : ShW w' base v s := by
  obtain ⟨vb, vn, es, rfl, h1, h2, h3, h4⟩ := h
  exact ⟨vb, vn, es, rfl, own_belowW h1 hb, h2, own_belowW h3 hb, fun k n e a b => (h4 k n e a b).below hb⟩
theorem set_five : ∀ (es : List (List Value)) (k : Nat) (p0 p1 p2 p3 p4 a0 a1 a2 a3 a4 : Value), es[k]? = some [p0, p1, p2, p3, p4] → (∀ x ∈ es, x.length = 5) →
    (((((es.flatten.set (k * 5 + 0) a0).set (k * 5 + 1) a1).set (k * 5 + 2) a2).set (k * 5 + 3) a3).set (k * 5 + 4) a4) = (es.set k [a0, a1, a2, a3, a4]).flatten
  | [], k, _, _, _, _, _, _, _, _, _, _, h, _ => by simp at h
  | y :: es, 0, p0, p1, p2, p3, p4, a0, a1, a2, a3, a4, h, _ => by
    simp at h
    subst h
    rfl
  | y :: es, k + 1, p0, p1, p2, p3, p4, a0, a1, a2, a3, a4, h, hC => by
    obtain ⟨x0, x1, x2, x3, x4, rfl⟩ := len5 (hC y (by simp))
    have ih := set_five es k p0 p1 p2 p3 p4 a0 a1 a2 a3 a4 (by simpa using h) (fun x hx => hC x (by simp [hx]))
    rw [List.set_cons_succ, List.flatten_cons, List.flatten_cons, ← ih]
    rw [show (k + 1) * 5 + 0 = (k * 5 + 0) + 5 by omega, show (k + 1) * 5 + 1 = (k * 5 + 1) + 5 by omega, show (k + 1) * 5 + 2 = (k * 5 + 2) + 5 by omega, show (k + 1) * 5 + 3 = (k * 5 + 3) + 5 by omega, show (k + 1) * 5 + 4 = (k * 5 + 4) + 5 by omega]
    rfl
end Go.Proofs.YteokeghenjobaaaGreatDoor
namespace Go.Proofs.YteokeghenjobaaaGreatDoor
open Go.ChangeShapes Go.WideShapes Go.ChangeAt Go.RowKit
structure KeepB (Cs : List Nat) (W W' : World) : Prop where
  size : W.heap.size ≤ W'.heap.size
  same : ∀ b ∈ Cs, W'.heap[b]? = W.heap[b]?
def SeqRow {α : Type} (F : Fence) (n : Nat) (P : Program) (g : Nat) (lb : Array Value) (encs : α → Array Value) (Bs : Nat) (Cs : List Nat) (xs : List α) (w : World) : Prop :=
  ∀ (l : Nat) (J : Nat → World → Prop) (W : World), Below w.heap.size w W →
    (∀ k W1 u, J k W1 → J k (W1.setCell ⟨Bs, 0, none⟩ u)) → (∀ k W1 W2, J k W1 → W1.grownBy W2 none → J k W2) →
    (∀ k x W1, J k W1 → xs[k]? = some x → YieldAt F (n - 1) P l (encs x) W1 fun e W' => e = .returned (.bool true) ∧ J (k + 1) W' ∧ KeepB Cs W1 W') →
    J 0 W → CallsIn F n P g (#[.func (.yield l) #[] #[]] ++ lb) W fun e W' => (∃ v, e = .returned v) ∧ J xs.length W'
def rowPost (B : Nat) (Cs : List Nat) (I : Nat → World → Prop) (k : Nat) (W : World) : Exit → Act → World → Prop
  | .normal, _, W' => KeepsFrom B W W' ∧ KeepB Cs W W' ∧ I k W'
  | _, _, _ => False
theorem wpIn_range_row {F : Fence} {n : Nat} {P : Program} {α : Type} {g : Operand} {ps : Array Tmp} {assign body : Code} {Q : Exit → Act → World → Prop} {a : Act} {w : World}
    (hro : F.round = none) (h1 : 1 ≤ n) {gf : Nat} {lb : Array Value} (hg : a.eval g = .func (.func gf) #[] lb) (hFg : F.fn gf) (eg : ∀ args w, (callFunc gf args).run P w = .ok (.enter gf args) w)
    {encs : α → Array Value} {Bs : Nat} {Cs : List Nat} {xs : List α} {w0 : World} (hseq : SeqRow F (n - 1) P gf lb encs Bs Cs xs w0) (hb0 : Below w0.heap.size w0 w) (hBs : Bs < w.heap.size) (hCs : ∀ b ∈ Cs, b < w.heap.size) (hps : ∀ x, (encs x).size = ps.size)
    (I : Nat → World → Prop) (hI : OwnFrom w.heap.size I) (hIs : ∀ k W u, I k W → I k (W.setCell ⟨Bs, 0, none⟩ u)) (h0 : I 0 w) (a₁ : α → Act)
    (hassign : ∀ (l : Nat) (x : α) (W : World) (K : Act → World → Prop), K (a₁ x) W →
      assign.wpIn (F.inRound l) (n - 1 - 1) P (Exit.then K (fun _ _ _ => False)) { tmps := (ps.zip (encs x)).foldl (fun t (p, v) => t.setIfInBounds p v) a.tmps, defers := [] } W)
    (hbody : ∀ (l k : Nat) (x : α) (W : World), I k W → xs[k]? = some x → body.wpIn (F.inRound l) (n - 1 - 1) P (rowPost w.heap.size Cs I (k + 1) W) (a₁ x) W)
    (hdone : ∀ (D : Nat) (W : World), w.heap.size ≤ D → I xs.length W → W.heap[D]? = some (.deferred (some [])) → Q .normal { a with defers := { target := .collected D, args := #[] } :: a.defers } W) :
    (Code.rangeFunc g ps assign body).wpIn F n P Q a w := by
  refine wpIn_rangeFunc ?_
  intro fn hfn
  rw [hro]
  obtain ⟨lp, hlp⟩ : ∃ lp : LoopState → Loop, lp = fun st => { state := st, pending := none, fn, tmps := a.tmps, params := ps, assign, body, defers := w.heap.size } := ⟨_, rfl⟩
  obtain ⟨V, hV⟩ : ∃ V, (w.alloc (.deferred (some []))).alloc (.loop (lp .ready)) = V := ⟨_, rfl⟩
  have hLp : V.heap[w.heap.size + 1]? = some (.loop (lp .ready)) := by
    rw [← hV]
    have := World.alloc_heap_new (w.alloc (.deferred (some []))) (.loop (lp .ready))
    rwa [World.size_alloc] at this
  have hDf : V.heap[w.heap.size]? = some (.deferred (some [])) := by
    rw [← hV]
    exact (Below.heap_alloc _ _ _ (by simp)).trans (World.alloc_heap_new w _)
  have hIV : I 0 V := by
    rw [← hV]
    exact hI.alloc _ (hI.alloc _ h0)
  have hbV : Below w0.heap.size w0 V := by
    rw [← hV]
    exact hb0.trans ((((Below.refl _ w).alloc (Nat.le_refl _) _).alloc (by simp) _).mono hb0.size)
  have hset : ∀ (W : World) (u : Value) (k : Nat), w.heap.size ≤ k → (W.setCell ⟨Bs, 0, none⟩ u).heap[k]? = W.heap[k]? := fun W u k hk => Below.heap_setCell W _ u k (fun e => by simp at e; omega)
  refine ⟨w.heap.size + 1, [{ target := .collected w.heap.size, args := #[] }], V, { target := .fn (.func gf) lb, args := #[.func (.yield (w.heap.size + 1)) #[] #[]] }, V, gf, #[.func (.yield (w.heap.size + 1)) #[] #[]] ++ lb, V, ?_, ?_, ?_, ?_, fun _ => h1, ?_⟩
  · rw [← hV, hlp]
    exact run_enterLoop_outer _ _ _ _ _
  · simp only [resolve, hg]
    simp [go_sem]
  · intro f' hf'
    simp [Target.leads] at hf'
    subst hf'
    exact hFg
  · simp [invoke, go_sem, eg]
  · refine (hseq (w.heap.size + 1) (fun k W => I k W ∧ W.heap[w.heap.size + 1]? = some (.loop (lp .ready)) ∧ W.heap[w.heap.size]? = some (.deferred (some []))) V hbV
      (fun k W1 u hs => ⟨hIs k W1 u hs.1, (hset W1 u _ (by omega)).trans hs.2.1, (hset W1 u _ (Nat.le_refl _)).trans hs.2.2⟩)
      (fun k W1 W2 hs hg => ⟨hI k W1 W2 none hs.1 hg (fun r e => by cases e), (hg.block _ (Array.getElem?_eq_some_iff.1 hs.2.1).1 (by simp)).trans hs.2.1, (hg.block _ (Array.getElem?_eq_some_iff.1 hs.2.2).1 (by simp)).trans hs.2.2⟩)
      ?_ ⟨hIV, hLp, hDf⟩).mono ?_
    · rintro k x W ⟨hi, hl, hk⟩ hx
      have hlt : w.heap.size + 1 < W.heap.size := (Array.getElem?_eq_some_iff.1 hl).1
      have hy := run_yield (P := P) (args := encs x) hl (by rw [hlp]; exact hps x)
      rw [hlp] at hy
      refine ⟨fn, _, assign, body, hy, roundIn_of_wpIn hfn (hassign _ x W _ ⟨_, run_beginRound hl (by rw [hlp]), ?_⟩)⟩
      have hl2 : (W.putObj (w.heap.size + 1) (.loop { lp .ready with state := .busy })).heap[w.heap.size + 1]? = some (.loop { lp .ready with state := .busy }) := World.putObj_heap_same hlt
      have hk2 : (W.putObj (w.heap.size + 1) (.loop { lp .ready with state := .busy })).heap[w.heap.size]? = some (.deferred (some [])) := (World.putObj_heap_other (by omega)).trans hk
      refine wpIn_mono (hbody _ k x _ (hI.putObj _ hi (by omega) hl rfl) hx) ?_
      rintro e a3 W3 hp
      cases e with
      | normal =>
        obtain ⟨q1, q2, q3⟩ := hp
        have hl3 := q1.same _ _ (by omega) hl2 rfl
        have hr := run_endRound (P := P) none hl3
        rw [hlp] at hr
        refine ⟨_, _, hr, rfl, ⟨hI.putObj _ q3 (by omega) hl3 rfl, ?_, (World.putObj_heap_other (by omega)).trans (q1.same _ _ (Nat.le_refl _) hk2 rfl)⟩, ?_⟩
        · rw [hlp]
          exact World.putObj_heap_same (Array.getElem?_eq_some_iff.1 hl3).1
        · refine ⟨?_, fun b hb => ?_⟩
          · have := q2.size
            simp at this ⊢
            exact this
          · have hbl := hCs b hb
            exact (World.putObj_heap_other (by omega)).trans ((q2.same b hb).trans (World.putObj_heap_other (by omega)))
      | ret => exact hp.elim
      | exit id => exact hp.elim
      | goto t => exact hp.elim
      | panic ch => exact hp.elim
      | outgrown => exact hp.elim
    · rintro e W2 ⟨⟨v, rfl⟩, hi, hl, hk⟩
      exact ⟨none, _, by have := run_endLoop (P := P) hl (by rw [hlp]; simp); rw [hlp] at this; exact this, hdone _ _ (Nat.le_refl _) (hI.putObj _ hi (by omega) hl rfl) ((World.putObj_heap_other (by omega)).trans hk)⟩
end Go.Proofs.YteokeghenjobaaaGreatDoor
namespace Go.Proofs
open Go.Shelf
def Tryz.laysValid_ren : Go.Shelf.Ren := ⟨fun | 196 => 140 | 259 => 163 | n => n, fun | 9 => 9 | 4 => 4 | 3 => 3 | 5 => 5 | 12 => 12 | 119 => 164 | 0 => 0 | 46 => 99 | 139 => 167 | 138 => 166 | 53 => 128 | n => n, fun | 3 => 1 | 4 => 2 | n => n⟩
theorem Tryz.laysValid : Go.Proofs.Lays.n196 Tryz.prog Tryz.laysValid_ren := {
  mixed := by kernel_rfl
  f196 := Tryz.func140.trans (congrArg some (by kernel_rfl))
  f259 := Tryz.func163.trans (congrArg some (by kernel_rfl))
  t0 := Tryz.underlying0
  a0 := Tryz.isAgg0
  z0 := Tryz.sizeOf0
  v0 := Tryz.zeroValue0
  t3 := Tryz.underlying3
  a3 := Tryz.isAgg3
  z3 := Tryz.sizeOf3
  v3 := Tryz.zeroValue3
  t4 := Tryz.underlying4
  a4 := Tryz.isAgg4
  z4 := Tryz.sizeOf4
  v4 := Tryz.zeroValue4
  t5 := Tryz.underlying5
  a5 := Tryz.isAgg5
  z5 := Tryz.sizeOf5
  v5 := Tryz.zeroValue5
  t9 := Tryz.underlying9
  a9 := Tryz.isAgg9
  z9 := Tryz.sizeOf9
  v9 := Tryz.zeroValue9
  t12 := Tryz.underlying12
  a12 := Tryz.isAgg12
  z12 := Tryz.sizeOf12
  v12 := Tryz.zeroValue12
  t46 := Tryz.underlying99
  a46 := Tryz.isAgg99
  z46 := Tryz.sizeOf99
  v46 := Tryz.zeroValue99
  t53 := Tryz.underlying128
  a53 := Tryz.isAgg128
  z53 := Tryz.sizeOf128
  v53 := Tryz.zeroValue128
  t119 := Tryz.underlying164
  a119 := Tryz.isAgg164
  z119 := Tryz.sizeOf164
  t138 := Tryz.underlying166
  a138 := Tryz.isAgg166
  z138 := Tryz.sizeOf166
  v138 := Tryz.zeroValue166
  t139 := Tryz.underlying167
  a139 := Tryz.isAgg167
  z139 := Tryz.sizeOf167
  v139 := Tryz.zeroValue167
  g3 := by kernel_rfl
  g4 := by kernel_rfl }
def Tryz.laysPrefix_ren : Go.Shelf.Ren := ⟨fun | 99 => 69 | 206 => 96 | n => n, fun | 9 => 9 | 4 => 4 | 3 => 3 | n => n, fun | n => n⟩
theorem Tryz.laysPrefix : Go.Proofs.Lays.n99 Tryz.prog Tryz.laysPrefix_ren := {
  mixed := by kernel_rfl
  f99 := Tryz.func69.trans (congrArg some (by kernel_rfl))
  f206 := Tryz.func96.trans (congrArg some (by kernel_rfl))
  t3 := Tryz.underlying3
  a3 := Tryz.isAgg3
  z3 := Tryz.sizeOf3
  v3 := Tryz.zeroValue3
  t4 := Tryz.underlying4
  a4 := Tryz.isAgg4
  z4 := Tryz.sizeOf4
  v4 := Tryz.zeroValue4
  t9 := Tryz.underlying9
  a9 := Tryz.isAgg9
  z9 := Tryz.sizeOf9
  v9 := Tryz.zeroValue9 }
def Tryz.laysSuffix_ren : Go.Shelf.Ren := ⟨fun | 100 => 141 | 207 => 164 | n => n, fun | 9 => 9 | 4 => 4 | 3 => 3 | n => n, fun | n => n⟩
theorem Tryz.laysSuffix : Go.Proofs.Lays.n100 Tryz.prog Tryz.laysSuffix_ren := {
  mixed := by kernel_rfl
  f100 := Tryz.func141.trans (congrArg some (by kernel_rfl))
  f207 := Tryz.func164.trans (congrArg some (by kernel_rfl))
  t3 := Tryz.underlying3
  a3 := Tryz.isAgg3
  z3 := Tryz.sizeOf3
  v3 := Tryz.zeroValue3
  t4 := Tryz.underlying4
  a4 := Tryz.isAgg4
  z4 := Tryz.sizeOf4
  v4 := Tryz.zeroValue4
  t9 := Tryz.underlying9
  a9 := Tryz.isAgg9
  z9 := Tryz.sizeOf9
  v9 := Tryz.zeroValue9 }
def Tryz.laysCmp_ren : Go.Shelf.Ren := ⟨fun | 106 => 43 | 213 => 77 | 265 => 110 | n => n, fun | 9 => 9 | 3 => 3 | n => n, fun | n => n⟩
theorem Tryz.laysCmp : Go.Proofs.Lays.n106 Tryz.prog Tryz.laysCmp_ren := {
  mixed := by kernel_rfl
  f106 := Tryz.func43.trans (congrArg some (by kernel_rfl))
  f213 := Tryz.func77.trans (congrArg some (by kernel_rfl))
  f265 := Tryz.func110.trans (congrArg some (by kernel_rfl))
  t3 := Tryz.underlying3
  a3 := Tryz.isAgg3
  z3 := Tryz.sizeOf3
  v3 := Tryz.zeroValue3
  t9 := Tryz.underlying9
  a9 := Tryz.isAgg9
  z9 := Tryz.sizeOf9
  v9 := Tryz.zeroValue9 }
def Tryz.laysSort_ren : Go.Shelf.Ren := ⟨fun | 6 => 40 | 15 => 76 | 14 => 75 | 28 => 108 | 29 => 109 | 20 => 100 | 21 => 101 | 22 => 102 | 23 => 103 | 24 => 104 | 25 => 105 | 26 => 106 | 27 => 107 | 46 => 149 | 47 => 150 | 48 => 151 | 49 => 152 | 50 => 153 | 57 => 172 | n => n, fun | 22 => 29 | 24 => 50 | 25 => 75 | 3 => 3 | 39 => 99 | 0 => 0 | 53 => 126 | 55 => 128 | 4 => 4 | 46 => 119 | 45 => 118 | 50 => 123 | 5 => 5 | 9 => 9 | 66 => 151 | 70 => 155 | 76 => 171 | 77 => 157 | n => n, fun | n => n⟩
theorem Tryz.laysSort : Go.Proofs.SlLaysF0.n6 Tryz.prog Tryz.laysSort_ren := {
  mixed := by kernel_rfl
  f6 := ⟨Tryz.f40.name, by decide, Tryz.func40.trans (congrArg some (by kernel_rfl))⟩
  f14 := ⟨Tryz.f75.name, by decide, Tryz.func75.trans (congrArg some (by kernel_rfl))⟩
  f15 := Tryz.func76.trans (congrArg some (by kernel_rfl))
  f20 := ⟨Tryz.f100.name, by decide, Tryz.func100.trans (congrArg some (by kernel_rfl))⟩
  f21 := ⟨Tryz.f101.name, by decide, Tryz.func101.trans (congrArg some (by kernel_rfl))⟩
  f22 := ⟨Tryz.f102.name, by decide, Tryz.func102.trans (congrArg some (by kernel_rfl))⟩
  f23 := ⟨Tryz.f103.name, by decide, Tryz.func103.trans (congrArg some (by kernel_rfl))⟩
  f24 := ⟨Tryz.f104.name, by decide, Tryz.func104.trans (congrArg some (by kernel_rfl))⟩
  f25 := ⟨Tryz.f105.name, by decide, Tryz.func105.trans (congrArg some (by kernel_rfl))⟩
  f26 := ⟨Tryz.f106.name, by decide, Tryz.func106.trans (congrArg some (by kernel_rfl))⟩
  f27 := ⟨Tryz.f107.name, by decide, Tryz.func107.trans (congrArg some (by kernel_rfl))⟩
  f28 := Tryz.func108.trans (congrArg some (by kernel_rfl))
  f29 := Tryz.func109.trans (congrArg some (by kernel_rfl))
  f46 := ⟨Tryz.f149.name, by decide, Tryz.func149.trans (congrArg some (by kernel_rfl))⟩
  f47 := Tryz.func150.trans (congrArg some (by kernel_rfl))
  f48 := Tryz.func151.trans (congrArg some (by kernel_rfl))
  f49 := ⟨Tryz.f152.name, by decide, Tryz.func152.trans (congrArg some (by kernel_rfl))⟩
  f50 := ⟨Tryz.f153.name, by decide, Tryz.func153.trans (congrArg some (by kernel_rfl))⟩
  f57 := ⟨Tryz.f172.name, by decide, Tryz.func172.trans (congrArg some (by kernel_rfl))⟩
  t0 := Tryz.underlying0
  a0 := Tryz.isAgg0
  z0 := Tryz.sizeOf0
  v0 := Tryz.zeroValue0
  t3 := Tryz.underlying3
  a3 := Tryz.isAgg3
  z3 := Tryz.sizeOf3
  v3 := Tryz.zeroValue3
  t4 := Tryz.underlying4
  a4 := Tryz.isAgg4
  z4 := Tryz.sizeOf4
  v4 := Tryz.zeroValue4
  t5 := Tryz.underlying5
  a5 := Tryz.isAgg5
  z5 := Tryz.sizeOf5
  v5 := Tryz.zeroValue5
  t9 := Tryz.underlying9
  a9 := Tryz.isAgg9
  z9 := Tryz.sizeOf9
  v9 := Tryz.zeroValue9
  t22 := Tryz.underlying29
  a22 := Tryz.isAgg29
  z22 := Tryz.sizeOf29
  v22 := Tryz.zeroValue29
  t25 := Tryz.underlying75
  a25 := Tryz.isAgg75
  z25 := Tryz.sizeOf75
  v25 := Tryz.zeroValue75
  t39 := Tryz.underlying99
  a39 := Tryz.isAgg99
  z39 := Tryz.sizeOf99
  v39 := Tryz.zeroValue99
  t45 := Tryz.underlying118
  a45 := Tryz.isAgg118
  z45 := Tryz.sizeOf118
  v45 := Tryz.zeroValue118
  t46 := Tryz.underlying119
  a46 := Tryz.isAgg119
  z46 := Tryz.sizeOf119
  v46 := Tryz.zeroValue119
  t50 := Tryz.underlying123
  a50 := Tryz.isAgg123
  z50 := Tryz.sizeOf123
  v50 := Tryz.zeroValue123
  t53 := Tryz.underlying126
  a53 := Tryz.isAgg126
  z53 := Tryz.sizeOf126
  v53 := Tryz.zeroValue126
  t55 := Tryz.underlying128
  a55 := Tryz.isAgg128
  z55 := Tryz.sizeOf128
  v55 := Tryz.zeroValue128
  t66 := Tryz.underlying151
  a66 := Tryz.isAgg151
  z66 := Tryz.sizeOf151
  v66 := Tryz.zeroValue151
  t70 := Tryz.underlying155
  a70 := Tryz.isAgg155
  z70 := Tryz.sizeOf155
  v70 := Tryz.zeroValue155
  t76 := Tryz.underlying171
  a76 := Tryz.isAgg171
  z76 := Tryz.sizeOf171
  v76 := Tryz.zeroValue171
  t77 := Tryz.underlying157
  a77 := Tryz.isAgg157
  z77 := Tryz.sizeOf157
  v77 := Tryz.zeroValue157 }
def Tryz.laysSortK_ren : Go.Shelf.Ren := ⟨fun | 6 => 50 | 15 => 76 | 14 => 87 | 28 => 108 | 29 => 109 | 20 => 119 | 21 => 120 | 22 => 121 | 23 => 122 | 24 => 123 | 25 => 124 | 26 => 125 | 27 => 126 | 46 => 155 | 47 => 150 | 48 => 151 | 49 => 156 | 50 => 157 | 57 => 173 | n => n, fun | 22 => 79 | 24 => 82 | 25 => 84 | 3 => 3 | 39 => 99 | 0 => 0 | 53 => 126 | 55 => 128 | 4 => 4 | 46 => 119 | 45 => 118 | 50 => 123 | 5 => 5 | 9 => 9 | 66 => 151 | 70 => 155 | 76 => 171 | 77 => 157 | n => n, fun | n => n⟩
theorem Tryz.laysSortK : Go.Proofs.SlLaysF0.n6 Tryz.prog Tryz.laysSortK_ren := {
  mixed := by kernel_rfl
  f6 := ⟨Tryz.f50.name, by decide, Tryz.func50.trans (congrArg some (by kernel_rfl))⟩
  f14 := ⟨Tryz.f87.name, by decide, Tryz.func87.trans (congrArg some (by kernel_rfl))⟩
  f15 := Tryz.func76.trans (congrArg some (by kernel_rfl))
  f20 := ⟨Tryz.f119.name, by decide, Tryz.func119.trans (congrArg some (by kernel_rfl))⟩
  f21 := ⟨Tryz.f120.name, by decide, Tryz.func120.trans (congrArg some (by kernel_rfl))⟩
  f22 := ⟨Tryz.f121.name, by decide, Tryz.func121.trans (congrArg some (by kernel_rfl))⟩
  f23 := ⟨Tryz.f122.name, by decide, Tryz.func122.trans (congrArg some (by kernel_rfl))⟩
  f24 := ⟨Tryz.f123.name, by decide, Tryz.func123.trans (congrArg some (by kernel_rfl))⟩
  f25 := ⟨Tryz.f124.name, by decide, Tryz.func124.trans (congrArg some (by kernel_rfl))⟩
  f26 := ⟨Tryz.f125.name, by decide, Tryz.func125.trans (congrArg some (by kernel_rfl))⟩
  f27 := ⟨Tryz.f126.name, by decide, Tryz.func126.trans (congrArg some (by kernel_rfl))⟩
  f28 := Tryz.func108.trans (congrArg some (by kernel_rfl))
  f29 := Tryz.func109.trans (congrArg some (by kernel_rfl))
  f46 := ⟨Tryz.f155.name, by decide, Tryz.func155.trans (congrArg some (by kernel_rfl))⟩
  f47 := Tryz.func150.trans (congrArg some (by kernel_rfl))
  f48 := Tryz.func151.trans (congrArg some (by kernel_rfl))
  f49 := ⟨Tryz.f156.name, by decide, Tryz.func156.trans (congrArg some (by kernel_rfl))⟩
  f50 := ⟨Tryz.f157.name, by decide, Tryz.func157.trans (congrArg some (by kernel_rfl))⟩
  f57 := ⟨Tryz.f173.name, by decide, Tryz.func173.trans (congrArg some (by kernel_rfl))⟩
  t0 := Tryz.underlying0
  a0 := Tryz.isAgg0
  z0 := Tryz.sizeOf0
  v0 := Tryz.zeroValue0
  t3 := Tryz.underlying3
  a3 := Tryz.isAgg3
  z3 := Tryz.sizeOf3
  v3 := Tryz.zeroValue3
  t4 := Tryz.underlying4
  a4 := Tryz.isAgg4
  z4 := Tryz.sizeOf4
  v4 := Tryz.zeroValue4
  t5 := Tryz.underlying5
  a5 := Tryz.isAgg5
  z5 := Tryz.sizeOf5
  v5 := Tryz.zeroValue5
  t9 := Tryz.underlying9
  a9 := Tryz.isAgg9
  z9 := Tryz.sizeOf9
  v9 := Tryz.zeroValue9
  t22 := Tryz.underlying79
  a22 := Tryz.isAgg79
  z22 := Tryz.sizeOf79
  v22 := Tryz.zeroValue79
  t25 := Tryz.underlying84
  a25 := Tryz.isAgg84
  z25 := Tryz.sizeOf84
  v25 := Tryz.zeroValue84
  t39 := Tryz.underlying99
  a39 := Tryz.isAgg99
  z39 := Tryz.sizeOf99
  v39 := Tryz.zeroValue99
  t45 := Tryz.underlying118
  a45 := Tryz.isAgg118
  z45 := Tryz.sizeOf118
  v45 := Tryz.zeroValue118
  t46 := Tryz.underlying119
  a46 := Tryz.isAgg119
  z46 := Tryz.sizeOf119
  v46 := Tryz.zeroValue119
  t50 := Tryz.underlying123
  a50 := Tryz.isAgg123
  z50 := Tryz.sizeOf123
  v50 := Tryz.zeroValue123
  t53 := Tryz.underlying126
  a53 := Tryz.isAgg126
  z53 := Tryz.sizeOf126
  v53 := Tryz.zeroValue126
  t55 := Tryz.underlying128
  a55 := Tryz.isAgg128
  z55 := Tryz.sizeOf128
  v55 := Tryz.zeroValue128
  t66 := Tryz.underlying151
  a66 := Tryz.isAgg151
  z66 := Tryz.sizeOf151
  v66 := Tryz.zeroValue151
  t70 := Tryz.underlying155
  a70 := Tryz.isAgg155
  z70 := Tryz.sizeOf155
  v70 := Tryz.zeroValue155
  t76 := Tryz.underlying171
  a76 := Tryz.isAgg171
  z76 := Tryz.sizeOf171
  v76 := Tryz.zeroValue171
  t77 := Tryz.underlying157
  a77 := Tryz.isAgg157
  z77 := Tryz.sizeOf157
  v77 := Tryz.zeroValue157 }
def Tryz.laysIndex_ren : Go.Shelf.Ren := ⟨fun | 143 => 130 | 219 => 147 | 217 => 168 | 225 => 169 | 224 => 170 | 267 => 171 | 266 => 175 | 314 => 176 | n => n, fun | 9 => 9 | 3 => 3 | 4 => 4 | 5 => 5 | 46 => 99 | 146 => 175 | 51 => 126 | n => n, fun | 1 => 0 | n => n⟩
theorem Tryz.laysIndex : Go.Proofs.Lays.n143 Tryz.prog Tryz.laysIndex_ren := {
  mixed := by kernel_rfl
  f143 := Tryz.func130.trans (congrArg some (by kernel_rfl))
  f217 := Tryz.func168.trans (congrArg some (by kernel_rfl))
  f219 := Tryz.func147.trans (congrArg some (by kernel_rfl))
  f224 := Tryz.func170.trans (congrArg some (by kernel_rfl))
  f225 := Tryz.func169.trans (congrArg some (by kernel_rfl))
  f266 := Tryz.func175.trans (congrArg some (by kernel_rfl))
  f267 := Tryz.func171.trans (congrArg some (by kernel_rfl))
  f314 := Tryz.func176.trans (congrArg some (by kernel_rfl))
  t3 := Tryz.underlying3
  a3 := Tryz.isAgg3
  z3 := Tryz.sizeOf3
  v3 := Tryz.zeroValue3
  t4 := Tryz.underlying4
  a4 := Tryz.isAgg4
  z4 := Tryz.sizeOf4
  v4 := Tryz.zeroValue4
  t5 := Tryz.underlying5
  a5 := Tryz.isAgg5
  z5 := Tryz.sizeOf5
  v5 := Tryz.zeroValue5
  t9 := Tryz.underlying9
  a9 := Tryz.isAgg9
  z9 := Tryz.sizeOf9
  v9 := Tryz.zeroValue9
  t46 := Tryz.underlying99
  a46 := Tryz.isAgg99
  z46 := Tryz.sizeOf99
  v46 := Tryz.zeroValue99
  t51 := Tryz.underlying126
  a51 := Tryz.isAgg126
  z51 := Tryz.sizeOf126
  v51 := Tryz.zeroValue126
  t146 := Tryz.underlying175
  a146 := Tryz.isAgg175
  z146 := Tryz.sizeOf175
  v146 := Tryz.zeroValue175
  g1 := by kernel_rfl }
def Tryz.laysSortS_ren : Go.Shelf.Ren := ⟨fun | 190 => 57 | 125 => 76 | 258 => 91 | 128 => 108 | 129 => 109 | 302 => 131 | 303 => 132 | 304 => 133 | 305 => 134 | 306 => 135 | 307 => 136 | 308 => 137 | 309 => 138 | 310 => 139 | 333 => 159 | 329 => 150 | 330 => 151 | 334 => 160 | 335 => 161 | 336 => 162 | 344 => 174 | n => n, fun | 31 => 38 | 9 => 9 | 3 => 3 | 46 => 99 | 0 => 0 | 51 => 126 | 53 => 128 | 4 => 4 | 183 => 119 | 182 => 118 | 131 => 123 | 5 => 5 | 218 => 151 | 222 => 155 | 228 => 171 | 229 => 157 | n => n, fun | n => n⟩
theorem Tryz.laysSortS : Go.Proofs.Lays.n190 Tryz.prog Tryz.laysSortS_ren := {
  mixed := by kernel_rfl
  f125 := Tryz.func76.trans (congrArg some (by kernel_rfl))
  f128 := Tryz.func108.trans (congrArg some (by kernel_rfl))
  f129 := Tryz.func109.trans (congrArg some (by kernel_rfl))
  f190 := Tryz.func57.trans (congrArg some (by kernel_rfl))
  f258 := Tryz.func91.trans (congrArg some (by kernel_rfl))
  f302 := Tryz.func131.trans (congrArg some (by kernel_rfl))
  f303 := Tryz.func132.trans (congrArg some (by kernel_rfl))
  f304 := Tryz.func133.trans (congrArg some (by kernel_rfl))
  f305 := Tryz.func134.trans (congrArg some (by kernel_rfl))
  f306 := Tryz.func135.trans (congrArg some (by kernel_rfl))
  f307 := Tryz.func136.trans (congrArg some (by kernel_rfl))
  f308 := Tryz.func137.trans (congrArg some (by kernel_rfl))
  f309 := Tryz.func138.trans (congrArg some (by kernel_rfl))
  f310 := Tryz.func139.trans (congrArg some (by kernel_rfl))
  f329 := Tryz.func150.trans (congrArg some (by kernel_rfl))
  f330 := Tryz.func151.trans (congrArg some (by kernel_rfl))
  f333 := Tryz.func159.trans (congrArg some (by kernel_rfl))
  f334 := Tryz.func160.trans (congrArg some (by kernel_rfl))
  f335 := Tryz.func161.trans (congrArg some (by kernel_rfl))
  f336 := Tryz.func162.trans (congrArg some (by kernel_rfl))
  f344 := Tryz.func174.trans (congrArg some (by kernel_rfl))
  t0 := Tryz.underlying0
  a0 := Tryz.isAgg0
  z0 := Tryz.sizeOf0
  v0 := Tryz.zeroValue0
  t3 := Tryz.underlying3
  a3 := Tryz.isAgg3
  z3 := Tryz.sizeOf3
  v3 := Tryz.zeroValue3
  t4 := Tryz.underlying4
  a4 := Tryz.isAgg4
  z4 := Tryz.sizeOf4
  v4 := Tryz.zeroValue4
  t5 := Tryz.underlying5
  a5 := Tryz.isAgg5
  z5 := Tryz.sizeOf5
  v5 := Tryz.zeroValue5
  t9 := Tryz.underlying9
  a9 := Tryz.isAgg9
  z9 := Tryz.sizeOf9
  v9 := Tryz.zeroValue9
  t31 := Tryz.underlying38
  a31 := Tryz.isAgg38
  z31 := Tryz.sizeOf38
  v31 := Tryz.zeroValue38
  t46 := Tryz.underlying99
  a46 := Tryz.isAgg99
  z46 := Tryz.sizeOf99
  v46 := Tryz.zeroValue99
  t51 := Tryz.underlying126
  a51 := Tryz.isAgg126
  z51 := Tryz.sizeOf126
  v51 := Tryz.zeroValue126
  t53 := Tryz.underlying128
  a53 := Tryz.isAgg128
  z53 := Tryz.sizeOf128
  v53 := Tryz.zeroValue128
  t131 := Tryz.underlying123
  a131 := Tryz.isAgg123
  z131 := Tryz.sizeOf123
  v131 := Tryz.zeroValue123
  t182 := Tryz.underlying118
  a182 := Tryz.isAgg118
  z182 := Tryz.sizeOf118
  v182 := Tryz.zeroValue118
  t183 := Tryz.underlying119
  a183 := Tryz.isAgg119
  z183 := Tryz.sizeOf119
  v183 := Tryz.zeroValue119
  t218 := Tryz.underlying151
  a218 := Tryz.isAgg151
  z218 := Tryz.sizeOf151
  v218 := Tryz.zeroValue151
  t222 := Tryz.underlying155
  a222 := Tryz.isAgg155
  z222 := Tryz.sizeOf155
  v222 := Tryz.zeroValue155
  t228 := Tryz.underlying171
  a228 := Tryz.isAgg171
  z228 := Tryz.sizeOf171
  v228 := Tryz.zeroValue171
  t229 := Tryz.underlying157
  a229 := Tryz.isAgg157
  z229 := Tryz.sizeOf157
  v229 := Tryz.zeroValue157 }
def Tryz.laysCompact_ren : Go.Shelf.Ren := ⟨fun | 194 => 58 | n => n, fun | 31 => 38 | 9 => 9 | 3 => 3 | 4 => 4 | 0 => 0 | n => n, fun | n => n⟩
theorem Tryz.laysCompact : Go.Proofs.Lays.n194 Tryz.prog Tryz.laysCompact_ren := {
  mixed := by kernel_rfl
  f194 := Tryz.func58.trans (congrArg some (by kernel_rfl))
  t0 := Tryz.underlying0
  a0 := Tryz.isAgg0
  z0 := Tryz.sizeOf0
  v0 := Tryz.zeroValue0
  t3 := Tryz.underlying3
  a3 := Tryz.isAgg3
  z3 := Tryz.sizeOf3
  v3 := Tryz.zeroValue3
  t4 := Tryz.underlying4
  a4 := Tryz.isAgg4
  z4 := Tryz.sizeOf4
  v4 := Tryz.zeroValue4
  t9 := Tryz.underlying9
  a9 := Tryz.isAgg9
  z9 := Tryz.sizeOf9
  v9 := Tryz.zeroValue9
  t31 := Tryz.underlying38
  a31 := Tryz.isAgg38
  z31 := Tryz.sizeOf38
  v31 := Tryz.zeroValue38 }
def Tryz.laysContains_ren : Go.Shelf.Ren := ⟨fun | 110 => 86 | 109 => 118 | n => n, fun | 31 => 38 | 9 => 9 | 4 => 4 | 3 => 3 | 0 => 0 | n => n, fun | n => n⟩
theorem Tryz.laysContains : Go.Proofs.Lays.n110 Tryz.prog Tryz.laysContains_ren := {
  mixed := by kernel_rfl
  f109 := Tryz.func118.trans (congrArg some (by kernel_rfl))
  f110 := Tryz.func86.trans (congrArg some (by kernel_rfl))
  t0 := Tryz.underlying0
  a0 := Tryz.isAgg0
  z0 := Tryz.sizeOf0
  v0 := Tryz.zeroValue0
  t3 := Tryz.underlying3
  a3 := Tryz.isAgg3
  z3 := Tryz.sizeOf3
  v3 := Tryz.zeroValue3
  t4 := Tryz.underlying4
  a4 := Tryz.isAgg4
  z4 := Tryz.sizeOf4
  v4 := Tryz.zeroValue4
  t9 := Tryz.underlying9
  a9 := Tryz.isAgg9
  z9 := Tryz.sizeOf9
  v9 := Tryz.zeroValue9
  t31 := Tryz.underlying38
  a31 := Tryz.isAgg38
  z31 := Tryz.sizeOf38
  v31 := Tryz.zeroValue38 }
end Go.Proofs
namespace Go.Proofs.YteokeghenjobaaaGreatDoor
open Go.ChangeShapes Go.WideShapes Go.ChangeAt Go.RowKit
attribute [local go_sem] Oper.semAt_some
theorem ix_some {a r : List UInt8} (h : ∀ x ∈ a, x ≠ 32) : Lib.indexByte (a ++ 32 :: r) 32 = (a.length : Int) := by
  induction a with
  | nil => simp [Lib.indexByte]
  | cons x a ih =>
    have hx : (x == 32) = false := by simpa using h x (by simp)
    have hi := ih (fun y hy => h y (by simp [hy]))
    rw [List.cons_append]
    unfold Lib.indexByte
    rw [hx, hi]
    simp
theorem ix_none {a : List UInt8} (h : ∀ x ∈ a, x ≠ 32) : Lib.indexByte a 32 = -1 := by
  induction a with
  | nil => rfl
  | cons x a ih =>
    have hx : (x == 32) = false := by simpa using h x (by simp)
    have hi := ih (fun y hy => h y (by simp [hy]))
    unfold Lib.indexByte
    rw [hx, hi]
    rfl
theorem cut_at (l : List UInt8) : (∀ x ∈ l, x ≠ 32) ∨ ∃ a r, l = a ++ 32 :: r ∧ ∀ x ∈ a, x ≠ 32 := by
  induction l with
  | nil => exact Or.inl (fun x hx => by simp at hx)
  | cons x l ih =>
    by_cases hx : x = 32
    · exact Or.inr ⟨[], l, by rw [hx]; rfl, fun y hy => by simp at hy⟩
    · rcases ih with h | ⟨a, r, rfl, h⟩
      · refine Or.inl (fun y hy => ?_)
        rcases List.mem_cons.1 hy with rfl | hy
        · exact hx
        · exact h y hy
      · refine Or.inr ⟨x :: a, r, rfl, fun y hy => ?_⟩
        rcases List.mem_cons.1 hy with rfl | hy
        · exact hx
        · exact h y hy
theorem bOf_l (l : List UInt8) : (bOf l).data.toList = l := by simp [bOf]
theorem bOf_size (l : List UInt8) : (bOf l).size = l.length := by simp [bOf, ByteArray.size]
theorem index_1 (l : List UInt8) (w : World) : Calls Tryz.prog 130 #[.string (bOf l), .string ⟨#[32]⟩] w fun e' w' => e' = .returned (.int .i64 (Lib.indexByte l 32)) ∧ w' = w := by
  have h := Any.strings_Index_one Tryz.laysIndex (bOf l) 32 w
  rw [bOf_l] at h
  exact h
theorem bOf_take (a l : List UInt8) : (bOf (a ++ l)).extract 0 a.length = bOf a := by
  apply ByteArray.ext
  apply Array.toList_inj.1
  simp [bOf]
theorem bOf_drop (a r : List UInt8) : (bOf (a ++ 32 :: r)).extract (a.length + 1) (a.length + 1 + r.length) = bOf r := by
  apply ByteArray.ext
  apply Array.toList_inj.1
  simp [bOf]
theorem wrapA {m : Nat} (h : m < 4294967296) : wrap64 (m : Int) = (m : Int) := by
  unfold wrap64
  omega
theorem wrapB {m : Nat} (h : m < 4294967296) : wrap64 ((m : Int) + 1) = ((m + 1 : Nat) : Int) := by
  unfold wrap64
  omega
theorem notneg (m : Nat) : ¬ (m : Int) < 0 := by omega
def leftS (bs : Nat) (w : World) : Nat := match w.cell? ⟨bs, 0, none⟩ with
  | some (.string b) => b.size
  | _ => 0
theorem leftS_eq {bs : Nat} {w : World} {l : List UInt8} (h : w.cell? ⟨bs, 0, none⟩ = some (.string (bOf l))) : leftS bs w = l.length := by
  unfold leftS
  rw [h]
  exact bOf_size l
theorem split1_in (n : Nat) (hn : 1 ≤ n) (l bp bs bv : Nat) (hne1 : bp ≠ bs) (hne2 : bv ≠ bs) (q : List UInt8) (hq : q.length < 4294967296) (J : Nat → World → Prop)
    (hset : ∀ k W1 u, J k W1 → J k (W1.setCell ⟨bs, 0, none⟩ u)) (hgrw : ∀ k W1 W2, J k W1 → W1.grownBy W2 none → J k W2)
    (hY : ∀ k x W1, J k W1 → (splitL q)[k]? = some x → YieldAt Fence.wide (n - 1) Tryz.prog l #[.string (bOf x)] W1 fun e W' => e = .returned (.bool true) ∧ J (k + 1) W' ∧ KeepB [bp, bs, bv] W1 W')
    (W : World) (hp : Boxed W bp 9 (.string ⟨#[32]⟩)) (hs : Boxed W bs 9 (.string (bOf q))) (hv : Boxed W bv 3 (.int .i64 0)) (h0 : J 0 W) :
    CallsIn Fence.wide n Tryz.prog 128 #[.func (.yield l) #[] #[], .pointer (some ⟨bp, 0, none⟩), .pointer (some ⟨bs, 0, none⟩), .pointer (some ⟨bv, 0, none⟩)] W fun e W' => (∃ v, e = .returned v) ∧ J (splitL q).length W' := by
  refine callsIn_of_wp Tryz.func128 rfl trivial ?_ rfl
  simp only [Tryz.ntmps128, List.size_toArray, List.length_cons, List.length_nil, Nat.reduceAdd, Nat.reduceSub, Array.replicate_succ, Array.replicate_zero, List.push_toArray, List.append_toArray, List.nil_append, List.cons_append]
  have c1 := hp.cell
  have c2 := hs.cell
  have c3 := hv.cell
  gi_wp2
  gi_loopw [7] (fun i wr => ∃ (k : Nat) (r : List UInt8), (splitL q).drop k = splitL r ∧ r.length ≤ q.length ∧ Boxed wr bp 9 (.string ⟨#[32]⟩) ∧ Boxed wr bs 9 (.string (bOf r)) ∧ Boxed wr bv 3 (.int .i64 0) ∧ J k wr) (fun i wr => leftS bs wr)
  case atStart => exact ⟨0, q, rfl, Nat.le_refl _, hp, hs, hv, h0⟩
  case round =>
    clear c1 c2 c3 hp hs hv h0
    obtain ⟨k, r, hk, hr, hp, hs, hv, hJ⟩ := hrel
    have c1 := hp.cell
    have c2 := hs.cell
    have c3 := hv.cell
    have f2 := hs.frozen
    have hm := leftS_eq c2
    rcases cut_at r with hno | ⟨a, r2, rfl, ha⟩
    · have hix := ix_none hno
      rw [splitL_no hno] at hk
      have hka : (splitL q)[k]? = some r := by
        have := congrArg (fun z => z[0]?) hk
        simpa [List.getElem?_drop] using this
      have hlen : (splitL q).length = k + 1 := by
        have := congrArg List.length hk
        rw [List.length_drop] at this
        simp at this
        omega
      obtain ⟨fn, tmps, assign, body, hy, hR⟩ := hY k r wr hJ hka
      have HLN := Lib.hid hlen
      clear hk hka hlen hno
      gi_wp2_with (refine ⟨trivial, ?_⟩; gi_at_call 130; refine (callsIn_wide.2 (index_1 _ _)).mono ?_; rintro e w' ⟨rfl, rfl⟩; rw [hix])
      refine hR.mono ?_
      rintro e W3 ⟨rfl, hJ3, hK3⟩
      gi_wp2
      go_end0
      exact ⟨⟨_, rfl⟩, by rw [HLN.out]; exact hJ3⟩
    · have hix := ix_some (r := r2) ha
      rw [splitL_at ha] at hk
      have hka : (splitL q)[k]? = some a := by
        have := congrArg (fun z => z[0]?) hk
        simpa [List.getElem?_drop] using this
      have hkr : (splitL q).drop (k + 1) = splitL r2 := by
        have := congrArg (List.drop 1) hk
        rw [List.drop_drop] at this
        simpa using this
      obtain ⟨fn, tmps, assign, body, hy, hR⟩ := hY k a wr hJ hka
      obtain ⟨m, hma⟩ : ∃ m, a.length = m := ⟨_, rfl⟩
      obtain ⟨S, hS⟩ : ∃ S, bOf (a ++ 32 :: r2) = S := ⟨_, rfl⟩
      have hsz : S.size = m + 1 + r2.length := by rw [← hS, bOf_size, ← hma]; simp; omega
      have e1 : S.extract 0 m = bOf a := by rw [← hS, ← hma]; exact bOf_take a _
      have e2 : S.extract (m + 1) S.size = bOf r2 := by rw [hsz, ← hS, ← hma]; exact bOf_drop a r2
      rw [hS] at c2 hs
      rw [hma] at hix
      have hi1 := index_1 (a ++ 32 :: r2) wr
      rw [hS, hix] at hi1
      have hmb : m < 4294967296 := by
        have : (a ++ 32 :: r2).length = m + 1 + r2.length := by simp [hma]; omega
        omega
      have w1 := wrapA hmb
      have w2 := wrapB hmb
      have z0 := notneg m
      have z1 : m ≤ S.size := by rw [hsz]; exact Nat.le_trans (Nat.le_succ m) (Nat.le_add_right _ _)
      have z2 : m + 1 ≤ S.size := by rw [hsz]; exact Nat.le_add_right _ _
      have HKR := Lib.hid hkr
      have HSZ := Lib.hid hsz
      have HR := Lib.hid hr
      have HM := Lib.hid hm
      clear hk hka hkr hS hsz hix hma hr hm
      gi_wp2_with (refine ⟨trivial, ?_⟩; gi_at_call 130; refine (callsIn_wide.2 hi1).mono ?_; rintro e w' ⟨rfl, rfl⟩)
      refine hR.mono ?_
      rintro e W3 ⟨rfl, hJ3, hK3⟩
      have hp3 : Boxed W3 bp 9 (.string ⟨#[32]⟩) := (hK3.same bp (by simp)).trans hp
      have hs3 : Boxed W3 bs 9 (.string S) := (hK3.same bs (by simp)).trans hs
      have hv3 : Boxed W3 bv 3 (.int .i64 0) := (hK3.same bv (by simp)).trans hv
      clear c1 c2 c3 f2
      have c1 := hp3.cell
      have c2 := hs3.cell
      have c3 := hv3.cell
      have f2 := hs3.frozen
      gi_wp2
      go_roundw
      case rel => exact ⟨k + 1, r2, HKR.out, by have := HSZ.out; have := HR.out; simp at *; omega, hp3.kept (grownBy_setCell' W3 bs _) (by simp; exact hne1), hs3.set _, hv3.kept (grownBy_setCell' W3 bs _) (by simp; exact hne2), hset _ _ _ hJ3⟩
      case measure =>
        show leftS bs (W3.setCell ⟨bs, 0, none⟩ (.string (bOf r2))) < leftS bs _
        rw [leftS_eq ((hs3.set _).cell), HM.out]
        simp
        omega
end Go.Proofs.YteokeghenjobaaaGreatDoor
namespace Go.Proofs.YteokeghenjobaaaGreatDoor
open Go.ChangeShapes Go.WideShapes Go.ChangeAt Go.RowKit
def lowI (x n : Int) : Int := (x % 18446744073709551616) % n
end Go.Proofs.YteokeghenjobaaaGreatDoor
namespace Go.Proofs.YteokeghenjobaaaGreatDoor
open Go.ChangeShapes Go.WideShapes Go.ChangeAt Go.RowKit
theorem at_L (s : ByteArray) (i : Nat) (h : i < s.size) : (s[i]'h).toNat = btL s.data.toList i := by
  unfold btL
  rw [← get_L]
  have : s[i]'h = s.get! i := by
    cases s with
    | mk d =>
      show d[i] = d[i]!
      rw [getElem!_pos]
  rw [this]
def prL (l : List UInt8) (i base : Nat) : Nat → Nat
  | 0 => btL l i - base
  | k + 1 => prL l i base k * 64 + btL l (i + (k + 1)) - 128
theorem prs (l : List UInt8) (i base : Nat) : prL l i base 0 = btL l i - base ∧ prL l i base 1 = prL l i base 0 * 64 + btL l (i + 1) - 128 ∧ prL l i base 2 = prL l i base 1 * 64 + btL l (i + 2) - 128 ∧ prL l i base 3 = prL l i base 2 * 64 + btL l (i + 3) - 128 := ⟨rfl, rfl, rfl, rfl⟩
theorem pr_le {l : List UInt8} {i base k : Nat} (hb : btL l i < base + 32) (hk : k ≤ 3) : prL l i base k ≤ 16777215 := by
  have h1 := bt_lt l (i + 1)
  have h2 := bt_lt l (i + 2)
  have h3 := bt_lt l (i + 3)
  obtain ⟨p0, p1, p2, p3⟩ := prs l i base
  have q0 : prL l i base 0 ≤ 31 := by omega
  have q1 : prL l i base 1 ≤ 2111 := by omega
  have q2 : prL l i base 2 ≤ 135231 := by omega
  have q3 : prL l i base 3 ≤ 8654911 := by omega
  rcases (by omega : k = 0 ∨ k = 1 ∨ k = 2 ∨ k = 3) with rfl | rfl | rfl | rfl
  · omega
  · omega
  · omega
  · omega
def r1L (l : List UInt8) (i : Nat) : Nat × Nat := if badL l i = true then (0, 0) else decL l i
theorem r1_bad {l : List UInt8} {i : Nat} (h : ¬ ∃ r w, Runed (l.length - i) (btL l i) (btL l (i + 1)) (btL l (i + 2)) (btL l (i + 3)) r w) : r1L l i = (0, 0) := by
  unfold r1L
  cases hq : badL l i
  · exact absurd ⟨_, _, good_of hq⟩ h
  · rfl
theorem r1_good {l : List UInt8} {i r w : Nat} (hi : i < l.length) (h : Runed (l.length - i) (btL l i) (btL l (i + 1)) (btL l (i + 2)) (btL l (i + 3)) r w) : r1L l i = (r, w) := by
  obtain ⟨h1, h2⟩ := of_good hi h
  unfold r1L
  rw [h2, if_neg (by simp), h1]
theorem rune1_1 (s : ByteArray) (i R N : Nat) (w : World) (hi : i < s.size) (hs : s.size ≤ 100000) (hr : r1L s.data.toList i = (R, N)) (hlo : 0 ≤ btL s.data.toList i) (hhi : btL s.data.toList i < 128) :
    Calls Tryz.prog 154 #[.string s, .int .i64 i] w fun e w' => e = .returned (.tuple #[.int .i64 R, .int .i64 N]) ∧ w = w' := by
  have hsz := size_L s
  have i0 : (0 : Int) ≤ (i : Int) := by omega
  have i1 : (i : Int) < (s.size : Int) := by omega
  have i2 : (s.size : Int) ≤ 100000 := by omega
  have hat : ∀ j (h : j < s.size), (s[j]'h).toNat = btL s.data.toList j := fun j h => at_L s j h
  obtain ⟨L, hL⟩ : ∃ L, s.data.toList = L := ⟨_, rfl⟩
  rw [hL] at hr hsz hat hlo hhi
  have HS := Lib.hid hsz
  have HR := Lib.hid hr
  have HAT := Lib.hid hat
  obtain ⟨c, hc⟩ : ∃ c, btL L i = c := ⟨_, rfl⟩
  have HC := Lib.hid hc
  have hc8 : c < 256 := by rw [← hc]; exact bt_lt L i
  rw [hc] at hlo hhi
  clear hL hr hsz hat hc
  go_enter Tryz.func154, Tryz.ntmps154
  go_upto_region 1 with fail
  go_cut [6] (fun v wx => v = .int .i64 (c : Nat) ∧ wx = w)
  case first =>
    go_wp2
    go_meet
    refine ⟨?_, rfl⟩
    rw [HAT.out i hi, HC.out]
    exact congrArg (Value.int .i64) (by unfold wrap64; omega)
  case rest =>
  obtain ⟨rfl, rfl⟩ := hcut
  obtain ⟨w0, rfl⟩ : ∃ W : World, W = wc := ⟨_, rfl⟩
  have hg := HR.out.symm.trans (r1_good (by rw [← HS.out]; exact hi) (Or.inl ⟨by rw [HC.out]; exact hhi, HC.out.symm, rfl⟩))
  simp only [Prod.mk.injEq] at hg
  have q1 : (c : Int) < 128 := by omega
  clear hlo hhi hc8 HC
  obtain ⟨rfl, rfl⟩ := hg
  go_wp2
  go_ret2
  exact ⟨rfl, rfl⟩
theorem rune1_n (s : ByteArray) (i R N : Nat) (w : World) (hi : i < s.size) (hs : s.size ≤ 100000) (hr : r1L s.data.toList i = (R, N)) (hlo : 128 ≤ btL s.data.toList i) (hhi : btL s.data.toList i < 194) :
    Calls Tryz.prog 154 #[.string s, .int .i64 i] w fun e w' => e = .returned (.tuple #[.int .i64 R, .int .i64 N]) ∧ w = w' := by
  have hsz := size_L s
  have i0 : (0 : Int) ≤ (i : Int) := by omega
  have i1 : (i : Int) < (s.size : Int) := by omega
  have i2 : (s.size : Int) ≤ 100000 := by omega
  have hat : ∀ j (h : j < s.size), (s[j]'h).toNat = btL s.data.toList j := fun j h => at_L s j h
  obtain ⟨L, hL⟩ : ∃ L, s.data.toList = L := ⟨_, rfl⟩
  rw [hL] at hr hsz hat hlo hhi
  have HS := Lib.hid hsz
  have HR := Lib.hid hr
  have HAT := Lib.hid hat
  obtain ⟨c, hc⟩ : ∃ c, btL L i = c := ⟨_, rfl⟩
  have HC := Lib.hid hc
  have hc8 : c < 256 := by rw [← hc]; exact bt_lt L i
  rw [hc] at hlo hhi
  clear hL hr hsz hat hc
  go_enter Tryz.func154, Tryz.ntmps154
  go_upto_region 1 with fail
  go_cut [6] (fun v wx => v = .int .i64 (c : Nat) ∧ wx = w)
  case first =>
    go_wp2
    go_meet
    refine ⟨?_, rfl⟩
    rw [HAT.out i hi, HC.out]
    exact congrArg (Value.int .i64) (by unfold wrap64; omega)
  case rest =>
  obtain ⟨rfl, rfl⟩ := hcut
  obtain ⟨w0, rfl⟩ : ∃ W : World, W = wc := ⟨_, rfl⟩
  have q1 : ¬ (c : Int) < 128 := by omega
  have hg := HR.out.symm.trans (r1_bad (by
    rintro ⟨r, v, h⟩
    unfold Runed at h
    rw [HC.out] at h
    have hn := HS.out
    have h1 := bt_lt L (i + 1)
    have h2 := bt_lt L (i + 2)
    have h3 := bt_lt L (i + 3)
    omega))
  simp only [Prod.mk.injEq] at hg
  obtain ⟨rfl, rfl⟩ := hg
  have q2 : ¬ (194 : Int) ≤ (c : Int) := by omega
  have q3 : ¬ (224 : Int) ≤ (c : Int) := by omega
  have q4 : ¬ (240 : Int) ≤ (c : Int) := by omega
  clear hlo hhi hc8
  go_wp2
  go_ret2
  exact ⟨rfl, rfl⟩
end Go.Proofs.YteokeghenjobaaaGreatDoor
namespace Go.Proofs.YteokeghenjobaaaGreatDoor
open Go.ChangeShapes Go.WideShapes Go.ChangeAt Go.RowKit
theorem rune1_2 (s : ByteArray) (i R N : Nat) (w : World) (hi : i < s.size) (hs : s.size ≤ 100000) (hr : r1L s.data.toList i = (R, N)) (hlo : 194 ≤ btL s.data.toList i) (hhi : btL s.data.toList i < 224) :
    Calls Tryz.prog 154 #[.string s, .int .i64 i] w fun e w' => e = .returned (.tuple #[.int .i64 R, .int .i64 N]) ∧ w = w' := by
  have hsz := size_L s
  have i0 : (0 : Int) ≤ (i : Int) := by omega
  have i1 : (i : Int) < (s.size : Int) := by omega
  have i2 : (s.size : Int) ≤ 100000 := by omega
  have hat : ∀ j (h : j < s.size), (s[j]'h).toNat = btL s.data.toList j := fun j h => at_L s j h
  obtain ⟨L, hL⟩ : ∃ L, s.data.toList = L := ⟨_, rfl⟩
  rw [hL] at hr hsz hat hlo hhi
  have HS := Lib.hid hsz
  have HR := Lib.hid hr
  have HAT := Lib.hid hat
  obtain ⟨c, hc⟩ : ∃ c, btL L i = c := ⟨_, rfl⟩
  have HC := Lib.hid hc
  have hc8 : c < 256 := by rw [← hc]; exact bt_lt L i
  rw [hc] at hlo hhi
  clear hL hr hsz hat hc
  go_enter Tryz.func154, Tryz.ntmps154
  go_upto_region 1 with fail
  go_cut [6] (fun v wx => v = .int .i64 (c : Nat) ∧ wx = w)
  case first =>
    go_wp2
    go_meet
    refine ⟨?_, rfl⟩
    rw [HAT.out i hi, HC.out]
    exact congrArg (Value.int .i64) (by unfold wrap64; omega)
  case rest =>
  obtain ⟨rfl, rfl⟩ := hcut
  obtain ⟨w0, rfl⟩ : ∃ W : World, W = wc := ⟨_, rfl⟩
  have q1 : ¬ (c : Int) < 128 := by omega
  have q2 : (194 : Int) ≤ (c : Int) := by omega
  have q3 : (c : Int) < 224 := by omega
  have hb32 : btL L i < 192 + 32 := by rw [HC.out]; omega
  have z1 : ((c : Int) - 192) = ((prL L i 192 0 : Nat) : Int) := by unfold prL; rw [HC.out]; omega
  by_cases hn : i + 2 ≤ s.size
  · have n1 : ¬ (2 : Int) > (s.size : Int) - (i : Int) := by omega
    have HB := Lib.hid hb32
    clear hb32
    go_upto_region 14 with fail
    clear z1
    go_wp2_with fail
    go_loop [8, 10] (fun x kk => ∃ k : Nat, 1 ≤ k ∧ k ≤ 2 ∧ kk = .int .i64 k ∧ x = .int .i64 (prL L i 192 (k - 1) : Nat) ∧ Hid (∀ j, 1 ≤ j → j < k → 128 ≤ btL L (i + j) ∧ btL L (i + j) ≤ 191)) (fun _ kk => 2 - (intOf kk).toNat)
    case atStart => exact ⟨1, by omega, by omega, rfl, rfl, Lib.hid (fun j h1 h2 => by omega)⟩
    case round =>
      obtain ⟨k, hk1, hk2, rfl, rfl, HD⟩ := hrel
      have hpb := pr_le (k := k - 1) HB.out (by omega)
      by_cases hlt : k < 2
      · have hik : i + k < s.size := by omega
        have j0 : (0 : Int) ≤ (i : Int) + (k : Int) := by omega
        have j1 : (i : Int) + (k : Int) < (s.size : Int) := by omega
        have j2 : (k : Int) < 2 := by omega
        obtain ⟨x, hx⟩ : ∃ x, btL L (i + k) = x := ⟨_, rfl⟩
        have hx8 : x < 256 := by rw [← hx]; exact bt_lt L _
        have HX := Lib.hid hx
        have hst : prL L i 192 (k + 1 - 1) = prL L i 192 (k - 1) * 64 + x - 128 := by
          obtain ⟨k', rfl⟩ : ∃ k', k = k' + 1 := ⟨k - 1, by omega⟩
          rw [← hx]
          rfl
        have HST := Lib.hid hst
        clear hst hx
        generalize prL L i 192 (k - 1) = P at hpb HST ⊢
        go_upto_region 17 with fail
        go_cut [11] (fun v wx => v = .int .i64 (x : Nat) ∧ wx = w0)
        case first =>
          go_wp2
          go_meet
          refine ⟨?_, rfl⟩
          rw [HAT.out (i + k) hik, HX.out]
          exact congrArg (Value.int .i64) (by unfold wrap64; omega)
        case rest =>
        obtain ⟨rfl, rfl⟩ := hcut
        by_cases hcx : 128 ≤ x ∧ x ≤ 191
        · have t1 : ¬ (x : Int) < 128 := by omega
          have t2 : ¬ (191 : Int) < (x : Int) := by omega
          have HCX := Lib.hid hcx
          clear hcx
          go_wp2
          go_round
          case rel =>
            have h1 := HST.out
            have h2 := HCX.out
            refine ⟨k + 1, by omega, by omega, by go_num, ?_, Lib.hid (show ∀ j, 1 ≤ j → j < k + 1 → 128 ≤ btL L (i + j) ∧ btL L (i + j) ≤ 191 from fun j a b => ?_)⟩
            · rw [h1]
              refine congrArg (Value.int .i64) ?_
              omega
            · by_cases hj : j = k
              · subst hj
                rw [HX.out]
                exact h2
              · exact HD.out j a (by omega)
          case measure => simp [intOf]; omega
        · have hg := HR.out.symm.trans (r1_bad (by
            rintro ⟨r, v, h⟩
            have hx := HX.out
            unfold Runed at h
            rw [HC.out] at h
            have hn := HS.out
            have h0 := bt_lt L (i + k)
            rcases (by omega : k = 1 ∨ k = 2 ∨ k = 3) with rfl | rfl | rfl <;> omega))
          simp only [Prod.mk.injEq] at hg
          obtain ⟨rfl, rfl⟩ := hg
          have t1 : (x : Int) < 128 ∨ (191 : Int) < (x : Int) := by omega
          clear hcx
          rcases t1 with t1 | t1
          · go_wp2
            go_ret2
            exact ⟨rfl, rfl⟩
          · have t2 : ¬ (x : Int) < 128 := by omega
            go_wp2
            go_ret2
            exact ⟨rfl, rfl⟩
      · have hkm : k = 2 := by omega
        subst hkm
        obtain ⟨P, hP⟩ : ∃ P, prL L i 192 (2 - 1) = P := ⟨_, rfl⟩
        have HP := Lib.hid (show prL L i 192 1 = P from hP)
        rw [hP] at hpb ⊢
        clear hP hlt
        by_cases hf : P < 128 ∨ 1114111 < P ∨ (55296 ≤ P ∧ P ≤ 57343)
        · have hg := HR.out.symm.trans (r1_bad (by
            rintro ⟨r, v, h⟩
            unfold Runed at h
            rw [HC.out] at h
            have hn := HS.out
            have c1 := HD.out 1 (by omega) (by omega)
            have hp := HP.out
            obtain ⟨p0, p1, p2, p3⟩ := prs L i 192
            rw [HC.out] at p0
            omega))
          simp only [Prod.mk.injEq] at hg
          obtain ⟨rfl, rfl⟩ := hg
          rcases (by omega : P < 128 ∨ (¬ P < 128 ∧ 1114111 < P) ∨ (¬ P < 128 ∧ ¬ 1114111 < P ∧ 55296 ≤ P ∧ P ≤ 57343)) with f | ⟨f0, f⟩ | ⟨f0, f1, f2, f3⟩
          · have g1 : (P : Int) < 128 := by omega
            clear hf
            go_wp2
            go_ret2
            exact ⟨rfl, rfl⟩
          · have g0 : ¬ (P : Int) < 128 := by omega
            have g1 : (1114111 : Int) < (P : Int) := by omega
            clear hf
            go_wp2
            go_ret2
            exact ⟨rfl, rfl⟩
          · have g0 : ¬ (P : Int) < 128 := by omega
            have g1 : ¬ (1114111 : Int) < (P : Int) := by omega
            have g2 : (55296 : Int) ≤ (P : Int) := by omega
            have g3 : (P : Int) ≤ 57343 := by omega
            clear hf
            go_wp2
            go_ret2
            exact ⟨rfl, rfl⟩
        · have hg := HR.out.symm.trans (r1_good (r := P) (w := 2) (by rw [← HS.out]; exact hi) (by
            have hn := HS.out
            have c1 := HD.out 1 (by omega) (by omega)
            have hp := HP.out
            obtain ⟨p0, p1, p2, p3⟩ := prs L i 192
            unfold Runed
            rw [HC.out] at p0 ⊢
            exact Or.inr (Or.inl ⟨by omega, by omega, by omega, by omega, by omega, rfl⟩)))
          have g0 : ¬ (P : Int) < 128 := by omega
          have g1 : ¬ (1114111 : Int) < (P : Int) := by omega
          have g2 : ¬ (55296 : Int) ≤ (P : Int) ∨ ((55296 : Int) ≤ (P : Int) ∧ ¬ (P : Int) ≤ 57343) := by omega
          clear hf
          simp only [Prod.mk.injEq] at hg
          obtain ⟨rfl, rfl⟩ := hg
          rcases g2 with g2 | ⟨g2, g3⟩
          · go_wp2
            go_ret2
            exact ⟨rfl, rfl⟩
          · go_wp2
            go_ret2
            exact ⟨rfl, rfl⟩
  · have hg := HR.out.symm.trans (r1_bad (by
      rintro ⟨r, v, h⟩
      unfold Runed at h
      rw [HC.out] at h
      have hn := HS.out
      have h1 := bt_lt L (i + 1)
      have h2 := bt_lt L (i + 2)
      have h3 := bt_lt L (i + 3)
      omega))
    simp only [Prod.mk.injEq] at hg
    obtain ⟨rfl, rfl⟩ := hg
    have n1 : (2 : Int) > (s.size : Int) - (i : Int) := by omega
    go_wp2
    go_ret2
    exact ⟨rfl, rfl⟩
end Go.Proofs.YteokeghenjobaaaGreatDoor
namespace Go.Proofs.YteokeghenjobaaaGreatDoor
open Go.ChangeShapes Go.WideShapes Go.ChangeAt Go.RowKit
theorem rune1_3 (s : ByteArray) (i R N : Nat) (w : World) (hi : i < s.size) (hs : s.size ≤ 100000) (hr : r1L s.data.toList i = (R, N)) (hlo : 224 ≤ btL s.data.toList i) (hhi : btL s.data.toList i < 240) :
    Calls Tryz.prog 154 #[.string s, .int .i64 i] w fun e w' => e = .returned (.tuple #[.int .i64 R, .int .i64 N]) ∧ w = w' := by
  have hsz := size_L s
  have i0 : (0 : Int) ≤ (i : Int) := by omega
  have i1 : (i : Int) < (s.size : Int) := by omega
  have i2 : (s.size : Int) ≤ 100000 := by omega
  have hat : ∀ j (h : j < s.size), (s[j]'h).toNat = btL s.data.toList j := fun j h => at_L s j h
  obtain ⟨L, hL⟩ : ∃ L, s.data.toList = L := ⟨_, rfl⟩
  rw [hL] at hr hsz hat hlo hhi
  have HS := Lib.hid hsz
  have HR := Lib.hid hr
  have HAT := Lib.hid hat
  obtain ⟨c, hc⟩ : ∃ c, btL L i = c := ⟨_, rfl⟩
  have HC := Lib.hid hc
  have hc8 : c < 256 := by rw [← hc]; exact bt_lt L i
  rw [hc] at hlo hhi
  clear hL hr hsz hat hc
  go_enter Tryz.func154, Tryz.ntmps154
  go_upto_region 1 with fail
  go_cut [6] (fun v wx => v = .int .i64 (c : Nat) ∧ wx = w)
  case first =>
    go_wp2
    go_meet
    refine ⟨?_, rfl⟩
    rw [HAT.out i hi, HC.out]
    exact congrArg (Value.int .i64) (by unfold wrap64; omega)
  case rest =>
  obtain ⟨rfl, rfl⟩ := hcut
  obtain ⟨w0, rfl⟩ : ∃ W : World, W = wc := ⟨_, rfl⟩
  have q1 : ¬ (c : Int) < 128 := by omega
  have q2 : (194 : Int) ≤ (c : Int) := by omega
  have q3 : ¬ (c : Int) < 224 := by omega
  have q3b : (224 : Int) ≤ (c : Int) := by omega
  have q4 : (c : Int) < 240 := by omega
  have hb32 : btL L i < 224 + 32 := by rw [HC.out]; omega
  have z1 : ((c : Int) - 224) = ((prL L i 224 0 : Nat) : Int) := by unfold prL; rw [HC.out]; omega
  by_cases hn : i + 3 ≤ s.size
  · have n1 : ¬ (3 : Int) > (s.size : Int) - (i : Int) := by omega
    have HB := Lib.hid hb32
    clear hb32
    go_upto_region 14 with fail
    clear z1
    go_wp2_with fail
    go_loop [8, 10] (fun x kk => ∃ k : Nat, 1 ≤ k ∧ k ≤ 3 ∧ kk = .int .i64 k ∧ x = .int .i64 (prL L i 224 (k - 1) : Nat) ∧ Hid (∀ j, 1 ≤ j → j < k → 128 ≤ btL L (i + j) ∧ btL L (i + j) ≤ 191)) (fun _ kk => 3 - (intOf kk).toNat)
    case atStart => exact ⟨1, by omega, by omega, rfl, rfl, Lib.hid (fun j h1 h2 => by omega)⟩
    case round =>
      obtain ⟨k, hk1, hk2, rfl, rfl, HD⟩ := hrel
      have hpb := pr_le (k := k - 1) HB.out (by omega)
      by_cases hlt : k < 3
      · have hik : i + k < s.size := by omega
        have j0 : (0 : Int) ≤ (i : Int) + (k : Int) := by omega
        have j1 : (i : Int) + (k : Int) < (s.size : Int) := by omega
        have j2 : (k : Int) < 3 := by omega
        obtain ⟨x, hx⟩ : ∃ x, btL L (i + k) = x := ⟨_, rfl⟩
        have hx8 : x < 256 := by rw [← hx]; exact bt_lt L _
        have HX := Lib.hid hx
        have hst : prL L i 224 (k + 1 - 1) = prL L i 224 (k - 1) * 64 + x - 128 := by
          obtain ⟨k', rfl⟩ : ∃ k', k = k' + 1 := ⟨k - 1, by omega⟩
          rw [← hx]
          rfl
        have HST := Lib.hid hst
        clear hst hx
        generalize prL L i 224 (k - 1) = P at hpb HST ⊢
        go_upto_region 17 with fail
        go_cut [11] (fun v wx => v = .int .i64 (x : Nat) ∧ wx = w0)
        case first =>
          go_wp2
          go_meet
          refine ⟨?_, rfl⟩
          rw [HAT.out (i + k) hik, HX.out]
          exact congrArg (Value.int .i64) (by unfold wrap64; omega)
        case rest =>
        obtain ⟨rfl, rfl⟩ := hcut
        by_cases hcx : 128 ≤ x ∧ x ≤ 191
        · have t1 : ¬ (x : Int) < 128 := by omega
          have t2 : ¬ (191 : Int) < (x : Int) := by omega
          have HCX := Lib.hid hcx
          clear hcx
          go_wp2
          go_round
          case rel =>
            have h1 := HST.out
            have h2 := HCX.out
            refine ⟨k + 1, by omega, by omega, by go_num, ?_, Lib.hid (show ∀ j, 1 ≤ j → j < k + 1 → 128 ≤ btL L (i + j) ∧ btL L (i + j) ≤ 191 from fun j a b => ?_)⟩
            · rw [h1]
              refine congrArg (Value.int .i64) ?_
              omega
            · by_cases hj : j = k
              · subst hj
                rw [HX.out]
                exact h2
              · exact HD.out j a (by omega)
          case measure => simp [intOf]; omega
        · have hg := HR.out.symm.trans (r1_bad (by
            rintro ⟨r, v, h⟩
            have hx := HX.out
            unfold Runed at h
            rw [HC.out] at h
            have hn := HS.out
            have h0 := bt_lt L (i + k)
            rcases (by omega : k = 1 ∨ k = 2 ∨ k = 3) with rfl | rfl | rfl <;> omega))
          simp only [Prod.mk.injEq] at hg
          obtain ⟨rfl, rfl⟩ := hg
          have t1 : (x : Int) < 128 ∨ (191 : Int) < (x : Int) := by omega
          clear hcx
          rcases t1 with t1 | t1
          · go_wp2
            go_ret2
            exact ⟨rfl, rfl⟩
          · have t2 : ¬ (x : Int) < 128 := by omega
            go_wp2
            go_ret2
            exact ⟨rfl, rfl⟩
      · have hkm : k = 3 := by omega
        subst hkm
        obtain ⟨P, hP⟩ : ∃ P, prL L i 224 (3 - 1) = P := ⟨_, rfl⟩
        have HP := Lib.hid (show prL L i 224 2 = P from hP)
        rw [hP] at hpb ⊢
        clear hP hlt
        by_cases hf : P < 2048 ∨ 1114111 < P ∨ (55296 ≤ P ∧ P ≤ 57343)
        · have hg := HR.out.symm.trans (r1_bad (by
            rintro ⟨r, v, h⟩
            unfold Runed at h
            rw [HC.out] at h
            have hn := HS.out
            have c1 := HD.out 1 (by omega) (by omega)
            have c2 := HD.out 2 (by omega) (by omega)
            have hp := HP.out
            obtain ⟨p0, p1, p2, p3⟩ := prs L i 224
            rw [HC.out] at p0
            omega))
          simp only [Prod.mk.injEq] at hg
          obtain ⟨rfl, rfl⟩ := hg
          rcases (by omega : P < 2048 ∨ (¬ P < 2048 ∧ 1114111 < P) ∨ (¬ P < 2048 ∧ ¬ 1114111 < P ∧ 55296 ≤ P ∧ P ≤ 57343)) with f | ⟨f0, f⟩ | ⟨f0, f1, f2, f3⟩
          · have g1 : (P : Int) < 2048 := by omega
            clear hf
            go_wp2
            go_ret2
            exact ⟨rfl, rfl⟩
          · have g0 : ¬ (P : Int) < 2048 := by omega
            have g1 : (1114111 : Int) < (P : Int) := by omega
            clear hf
            go_wp2
            go_ret2
            exact ⟨rfl, rfl⟩
          · have g0 : ¬ (P : Int) < 2048 := by omega
            have g1 : ¬ (1114111 : Int) < (P : Int) := by omega
            have g2 : (55296 : Int) ≤ (P : Int) := by omega
            have g3 : (P : Int) ≤ 57343 := by omega
            clear hf
            go_wp2
            go_ret2
            exact ⟨rfl, rfl⟩
        · have hg := HR.out.symm.trans (r1_good (r := P) (w := 3) (by rw [← HS.out]; exact hi) (by
            have hn := HS.out
            have c1 := HD.out 1 (by omega) (by omega)
            have c2 := HD.out 2 (by omega) (by omega)
            have hp := HP.out
            obtain ⟨p0, p1, p2, p3⟩ := prs L i 224
            unfold Runed
            rw [HC.out] at p0 ⊢
            exact Or.inr (Or.inr (Or.inl ⟨by omega, by omega, by omega, by omega, by omega, by omega, by omega, rfl⟩))))
          have g0 : ¬ (P : Int) < 2048 := by omega
          have g1 : ¬ (1114111 : Int) < (P : Int) := by omega
          have g2 : ¬ (55296 : Int) ≤ (P : Int) ∨ ((55296 : Int) ≤ (P : Int) ∧ ¬ (P : Int) ≤ 57343) := by omega
          clear hf
          simp only [Prod.mk.injEq] at hg
          obtain ⟨rfl, rfl⟩ := hg
          rcases g2 with g2 | ⟨g2, g3⟩
          · go_wp2
            go_ret2
            exact ⟨rfl, rfl⟩
          · go_wp2
            go_ret2
            exact ⟨rfl, rfl⟩
  · have hg := HR.out.symm.trans (r1_bad (by
      rintro ⟨r, v, h⟩
      unfold Runed at h
      rw [HC.out] at h
      have hn := HS.out
      have h1 := bt_lt L (i + 1)
      have h2 := bt_lt L (i + 2)
      have h3 := bt_lt L (i + 3)
      omega))
    simp only [Prod.mk.injEq] at hg
    obtain ⟨rfl, rfl⟩ := hg
    have n1 : (3 : Int) > (s.size : Int) - (i : Int) := by omega
    go_wp2
    go_ret2
    exact ⟨rfl, rfl⟩
end Go.Proofs.YteokeghenjobaaaGreatDoor
namespace Go.Proofs.YteokeghenjobaaaGreatDoor
open Go.ChangeShapes Go.WideShapes Go.ChangeAt Go.RowKit
theorem rune1_4 (s : ByteArray) (i R N : Nat) (w : World) (hi : i < s.size) (hs : s.size ≤ 100000) (hr : r1L s.data.toList i = (R, N)) (hlo : 240 ≤ btL s.data.toList i) (hhi : btL s.data.toList i < 245) :
    Calls Tryz.prog 154 #[.string s, .int .i64 i] w fun e w' => e = .returned (.tuple #[.int .i64 R, .int .i64 N]) ∧ w = w' := by
  have hsz := size_L s
  have i0 : (0 : Int) ≤ (i : Int) := by omega
  have i1 : (i : Int) < (s.size : Int) := by omega
  have i2 : (s.size : Int) ≤ 100000 := by omega
  have hat : ∀ j (h : j < s.size), (s[j]'h).toNat = btL s.data.toList j := fun j h => at_L s j h
  obtain ⟨L, hL⟩ : ∃ L, s.data.toList = L := ⟨_, rfl⟩
  rw [hL] at hr hsz hat hlo hhi
  have HS := Lib.hid hsz
  have HR := Lib.hid hr
  have HAT := Lib.hid hat
  obtain ⟨c, hc⟩ : ∃ c, btL L i = c := ⟨_, rfl⟩
  have HC := Lib.hid hc
  have hc8 : c < 256 := by rw [← hc]; exact bt_lt L i
  rw [hc] at hlo hhi
  clear hL hr hsz hat hc
  go_enter Tryz.func154, Tryz.ntmps154
  go_upto_region 1 with fail
  go_cut [6] (fun v wx => v = .int .i64 (c : Nat) ∧ wx = w)
  case first =>
    go_wp2
    go_meet
    refine ⟨?_, rfl⟩
    rw [HAT.out i hi, HC.out]
    exact congrArg (Value.int .i64) (by unfold wrap64; omega)
  case rest =>
  obtain ⟨rfl, rfl⟩ := hcut
  obtain ⟨w0, rfl⟩ : ∃ W : World, W = wc := ⟨_, rfl⟩
  have q1 : ¬ (c : Int) < 128 := by omega
  have q2 : (194 : Int) ≤ (c : Int) := by omega
  have q3 : ¬ (c : Int) < 224 := by omega
  have q3b : (224 : Int) ≤ (c : Int) := by omega
  have q4 : ¬ (c : Int) < 240 := by omega
  have q4b : (240 : Int) ≤ (c : Int) := by omega
  have q5 : (c : Int) < 245 := by omega
  have hb32 : btL L i < 240 + 32 := by rw [HC.out]; omega
  have z1 : ((c : Int) - 240) = ((prL L i 240 0 : Nat) : Int) := by unfold prL; rw [HC.out]; omega
  by_cases hn : i + 4 ≤ s.size
  · have n1 : ¬ (4 : Int) > (s.size : Int) - (i : Int) := by omega
    have HB := Lib.hid hb32
    clear hb32
    go_upto_region 14 with fail
    clear z1
    go_wp2_with fail
    go_loop [8, 10] (fun x kk => ∃ k : Nat, 1 ≤ k ∧ k ≤ 4 ∧ kk = .int .i64 k ∧ x = .int .i64 (prL L i 240 (k - 1) : Nat) ∧ Hid (∀ j, 1 ≤ j → j < k → 128 ≤ btL L (i + j) ∧ btL L (i + j) ≤ 191)) (fun _ kk => 4 - (intOf kk).toNat)
    case atStart => exact ⟨1, by omega, by omega, rfl, rfl, Lib.hid (fun j h1 h2 => by omega)⟩
    case round =>
      obtain ⟨k, hk1, hk2, rfl, rfl, HD⟩ := hrel
      have hpb := pr_le (k := k - 1) HB.out (by omega)
      by_cases hlt : k < 4
      · have hik : i + k < s.size := by omega
        have j0 : (0 : Int) ≤ (i : Int) + (k : Int) := by omega
        have j1 : (i : Int) + (k : Int) < (s.size : Int) := by omega
        have j2 : (k : Int) < 4 := by omega
        obtain ⟨x, hx⟩ : ∃ x, btL L (i + k) = x := ⟨_, rfl⟩
        have hx8 : x < 256 := by rw [← hx]; exact bt_lt L _
        have HX := Lib.hid hx
        have hst : prL L i 240 (k + 1 - 1) = prL L i 240 (k - 1) * 64 + x - 128 := by
          obtain ⟨k', rfl⟩ : ∃ k', k = k' + 1 := ⟨k - 1, by omega⟩
          rw [← hx]
          rfl
        have HST := Lib.hid hst
        clear hst hx
        generalize prL L i 240 (k - 1) = P at hpb HST ⊢
        go_upto_region 17 with fail
        go_cut [11] (fun v wx => v = .int .i64 (x : Nat) ∧ wx = w0)
        case first =>
          go_wp2
          go_meet
          refine ⟨?_, rfl⟩
          rw [HAT.out (i + k) hik, HX.out]
          exact congrArg (Value.int .i64) (by unfold wrap64; omega)
        case rest =>
        obtain ⟨rfl, rfl⟩ := hcut
        by_cases hcx : 128 ≤ x ∧ x ≤ 191
        · have t1 : ¬ (x : Int) < 128 := by omega
          have t2 : ¬ (191 : Int) < (x : Int) := by omega
          have HCX := Lib.hid hcx
          clear hcx
          go_wp2
          go_round
          case rel =>
            have h1 := HST.out
            have h2 := HCX.out
            refine ⟨k + 1, by omega, by omega, by go_num, ?_, Lib.hid (show ∀ j, 1 ≤ j → j < k + 1 → 128 ≤ btL L (i + j) ∧ btL L (i + j) ≤ 191 from fun j a b => ?_)⟩
            · rw [h1]
              refine congrArg (Value.int .i64) ?_
              omega
            · by_cases hj : j = k
              · subst hj
                rw [HX.out]
                exact h2
              · exact HD.out j a (by omega)
          case measure => simp [intOf]; omega
        · have hg := HR.out.symm.trans (r1_bad (by
            rintro ⟨r, v, h⟩
            have hx := HX.out
            unfold Runed at h
            rw [HC.out] at h
            have hn := HS.out
            have h0 := bt_lt L (i + k)
            rcases (by omega : k = 1 ∨ k = 2 ∨ k = 3) with rfl | rfl | rfl <;> omega))
          simp only [Prod.mk.injEq] at hg
          obtain ⟨rfl, rfl⟩ := hg
          have t1 : (x : Int) < 128 ∨ (191 : Int) < (x : Int) := by omega
          clear hcx
          rcases t1 with t1 | t1
          · go_wp2
            go_ret2
            exact ⟨rfl, rfl⟩
          · have t2 : ¬ (x : Int) < 128 := by omega
            go_wp2
            go_ret2
            exact ⟨rfl, rfl⟩
      · have hkm : k = 4 := by omega
        subst hkm
        obtain ⟨P, hP⟩ : ∃ P, prL L i 240 (4 - 1) = P := ⟨_, rfl⟩
        have HP := Lib.hid (show prL L i 240 3 = P from hP)
        rw [hP] at hpb ⊢
        clear hP hlt
        by_cases hf : P < 65536 ∨ 1114111 < P ∨ (55296 ≤ P ∧ P ≤ 57343)
        · have hg := HR.out.symm.trans (r1_bad (by
            rintro ⟨r, v, h⟩
            unfold Runed at h
            rw [HC.out] at h
            have hn := HS.out
            have c1 := HD.out 1 (by omega) (by omega)
            have c2 := HD.out 2 (by omega) (by omega)
            have c3 := HD.out 3 (by omega) (by omega)
            have hp := HP.out
            obtain ⟨p0, p1, p2, p3⟩ := prs L i 240
            rw [HC.out] at p0
            omega))
          simp only [Prod.mk.injEq] at hg
          obtain ⟨rfl, rfl⟩ := hg
          rcases (by omega : P < 65536 ∨ (¬ P < 65536 ∧ 1114111 < P) ∨ (¬ P < 65536 ∧ ¬ 1114111 < P ∧ 55296 ≤ P ∧ P ≤ 57343)) with f | ⟨f0, f⟩ | ⟨f0, f1, f2, f3⟩
          · have g1 : (P : Int) < 65536 := by omega
            clear hf
            go_wp2
            go_ret2
            exact ⟨rfl, rfl⟩
          · have g0 : ¬ (P : Int) < 65536 := by omega
            have g1 : (1114111 : Int) < (P : Int) := by omega
            clear hf
            go_wp2
            go_ret2
            exact ⟨rfl, rfl⟩
          · have g0 : ¬ (P : Int) < 65536 := by omega
            have g1 : ¬ (1114111 : Int) < (P : Int) := by omega
            have g2 : (55296 : Int) ≤ (P : Int) := by omega
            have g3 : (P : Int) ≤ 57343 := by omega
            clear hf
            go_wp2
            go_ret2
            exact ⟨rfl, rfl⟩
        · have hg := HR.out.symm.trans (r1_good (r := P) (w := 4) (by rw [← HS.out]; exact hi) (by
            have hn := HS.out
            have c1 := HD.out 1 (by omega) (by omega)
            have c2 := HD.out 2 (by omega) (by omega)
            have c3 := HD.out 3 (by omega) (by omega)
            have hp := HP.out
            obtain ⟨p0, p1, p2, p3⟩ := prs L i 240
            unfold Runed
            rw [HC.out] at p0 ⊢
            exact Or.inr (Or.inr (Or.inr ⟨by omega, by omega, by omega, by omega, by omega, by omega, by omega, by omega, rfl⟩))))
          have g0 : ¬ (P : Int) < 65536 := by omega
          have g1 : ¬ (1114111 : Int) < (P : Int) := by omega
          have g2 : ¬ (55296 : Int) ≤ (P : Int) ∨ ((55296 : Int) ≤ (P : Int) ∧ ¬ (P : Int) ≤ 57343) := by omega
          clear hf
          simp only [Prod.mk.injEq] at hg
          obtain ⟨rfl, rfl⟩ := hg
          rcases g2 with g2 | ⟨g2, g3⟩
          · go_wp2
            go_ret2
            exact ⟨rfl, rfl⟩
          · go_wp2
            go_ret2
            exact ⟨rfl, rfl⟩
  · have hg := HR.out.symm.trans (r1_bad (by
      rintro ⟨r, v, h⟩
      unfold Runed at h
      rw [HC.out] at h
      have hn := HS.out
      have h1 := bt_lt L (i + 1)
      have h2 := bt_lt L (i + 2)
      have h3 := bt_lt L (i + 3)
      omega))
    simp only [Prod.mk.injEq] at hg
    obtain ⟨rfl, rfl⟩ := hg
    have n1 : (4 : Int) > (s.size : Int) - (i : Int) := by omega
    go_wp2
    go_ret2
    exact ⟨rfl, rfl⟩
end Go.Proofs.YteokeghenjobaaaGreatDoor
namespace Go.Proofs.YteokeghenjobaaaGreatDoor
open Go.ChangeShapes Go.WideShapes Go.ChangeAt Go.RowKit
theorem rune1_x (s : ByteArray) (i R N : Nat) (w : World) (hi : i < s.size) (hs : s.size ≤ 100000) (hr : r1L s.data.toList i = (R, N)) (hlo : 245 ≤ btL s.data.toList i) (hhi : btL s.data.toList i < 256) :
    Calls Tryz.prog 154 #[.string s, .int .i64 i] w fun e w' => e = .returned (.tuple #[.int .i64 R, .int .i64 N]) ∧ w = w' := by
  have hsz := size_L s
  have i0 : (0 : Int) ≤ (i : Int) := by omega
  have i1 : (i : Int) < (s.size : Int) := by omega
  have i2 : (s.size : Int) ≤ 100000 := by omega
  have hat : ∀ j (h : j < s.size), (s[j]'h).toNat = btL s.data.toList j := fun j h => at_L s j h
  obtain ⟨L, hL⟩ : ∃ L, s.data.toList = L := ⟨_, rfl⟩
  rw [hL] at hr hsz hat hlo hhi
  have HS := Lib.hid hsz
  have HR := Lib.hid hr
  have HAT := Lib.hid hat
  obtain ⟨c, hc⟩ : ∃ c, btL L i = c := ⟨_, rfl⟩
  have HC := Lib.hid hc
  have hc8 : c < 256 := by rw [← hc]; exact bt_lt L i
  rw [hc] at hlo hhi
  clear hL hr hsz hat hc
  go_enter Tryz.func154, Tryz.ntmps154
  go_upto_region 1 with fail
  go_cut [6] (fun v wx => v = .int .i64 (c : Nat) ∧ wx = w)
  case first =>
    go_wp2
    go_meet
    refine ⟨?_, rfl⟩
    rw [HAT.out i hi, HC.out]
    exact congrArg (Value.int .i64) (by unfold wrap64; omega)
  case rest =>
  obtain ⟨rfl, rfl⟩ := hcut
  obtain ⟨w0, rfl⟩ : ∃ W : World, W = wc := ⟨_, rfl⟩
  have q1 : ¬ (c : Int) < 128 := by omega
  have q2 : (194 : Int) ≤ (c : Int) := by omega
  have q3 : ¬ (c : Int) < 224 := by omega
  have q3b : (224 : Int) ≤ (c : Int) := by omega
  have q4 : ¬ (c : Int) < 240 := by omega
  have q4b : (240 : Int) ≤ (c : Int) := by omega
  have q5 : ¬ (c : Int) < 245 := by omega
  have hg := HR.out.symm.trans (r1_bad (by
    rintro ⟨r, v, h⟩
    unfold Runed at h
    rw [HC.out] at h
    have hn := HS.out
    have h1 := bt_lt L (i + 1)
    have h2 := bt_lt L (i + 2)
    have h3 := bt_lt L (i + 3)
    omega))
  simp only [Prod.mk.injEq] at hg
  obtain ⟨rfl, rfl⟩ := hg
  clear hlo hhi hc8
  go_wp2
  go_ret2
  exact ⟨rfl, rfl⟩
theorem rune1_any (s : ByteArray) (i R N : Nat) (w : World) (hi : i < s.size) (hs : s.size ≤ 100000) (hr : r1L s.data.toList i = (R, N)) :
    Calls Tryz.prog 154 #[.string s, .int .i64 i] w fun e w' => e = .returned (.tuple #[.int .i64 R, .int .i64 N]) ∧ w = w' := by
  have hc8 := bt_lt s.data.toList i
  rcases (by omega : (0 ≤ btL s.data.toList i ∧ btL s.data.toList i < 128) ∨ (128 ≤ btL s.data.toList i ∧ btL s.data.toList i < 194) ∨ (194 ≤ btL s.data.toList i ∧ btL s.data.toList i < 224) ∨ (224 ≤ btL s.data.toList i ∧ btL s.data.toList i < 240) ∨ (240 ≤ btL s.data.toList i ∧ btL s.data.toList i < 245) ∨ (245 ≤ btL s.data.toList i ∧ btL s.data.toList i < 256)) with ⟨a, b⟩ | ⟨a, b⟩ | ⟨a, b⟩ | ⟨a, b⟩ | ⟨a, b⟩ | ⟨a, b⟩
  · exact rune1_1 s i R N w hi hs hr a b
  · exact rune1_n s i R N w hi hs hr a b
  · exact rune1_2 s i R N w hi hs hr a b
  · exact rune1_3 s i R N w hi hs hr a b
  · exact rune1_4 s i R N w hi hs hr a b
  · exact rune1_x s i R N w hi hs hr a b
end Go.Proofs.YteokeghenjobaaaGreatDoor
namespace Go.Proofs.YteokeghenjobaaaGreatDoor
open Go.ChangeShapes Go.WideShapes Go.ChangeAt Go.RowKit
def Tabs (w : World) : Prop := Lib.Utf8Tabs (Tryz.laysValid_ren.g 3) (Tryz.laysValid_ren.g 4) w
theorem Tabs.next {w w' : World} (h : Tabs w) (hb : Below w.heap.size w w') : Tabs w' := Utf8Tabs_below h hb
theorem valid_any (s : ByteArray) (V : Bool) (w : World) (hs : s.size ≤ 100000) (hT : Tabs w) (hV : validL s.data.toList = V) :
    Calls Tryz.prog 140 #[.string s] w fun e w' => e = .returned (.bool V) ∧ Below w.heap.size w w' := by
  have c : Calls Tryz.prog 140 #[.string s] w _ := Any.utf8_ValidString Tryz.laysValid s w (by omega) hT
  exact c.mono fun e w' h => ⟨by rw [h.1, valid_L, hV], h.2⟩
theorem prefix_any (s : ByteArray) (B : Bool) (w : World) (hB : Lib.hasPrefix s.data.toList [32] = B) :
    Calls Tryz.prog 69 #[.string s, .string ⟨#[32]⟩] w fun e w' => e = .returned (.bool B) ∧ w = w' := by
  have c : Calls Tryz.prog 69 #[.string s, .string ⟨#[32]⟩] w _ := Any.strings_HasPrefix Tryz.laysPrefix s ⟨#[32]⟩ w
  exact c.mono fun e w' h => ⟨by rw [h.1, ← hB], h.2.symm⟩
theorem suffix_any (s : ByteArray) (B : Bool) (w : World) (hs : s.size ≤ 100000) (hB : Lib.hasSuffix s.data.toList [32] = B) :
    Calls Tryz.prog 141 #[.string s, .string ⟨#[32]⟩] w fun e w' => e = .returned (.bool B) ∧ w = w' := by
  have c : Calls Tryz.prog 141 #[.string s, .string ⟨#[32]⟩] w _ := Any.strings_HasSuffix Tryz.laysSuffix s ⟨#[32]⟩ w (by omega)
  exact c.mono fun e w' h => ⟨by rw [h.1, ← hB], h.2.symm⟩
theorem byte_beq (x : UInt8) : ((32 : UInt8) == x) = (x.toNat == 32) := by
  rw [Bool.eq_iff_iff, beq_iff_eq, beq_iff_eq]
  constructor
  · rintro rfl
    rfl
  · intro h
    exact (UInt8.toNat_inj.1 (by rw [h]; rfl)).symm
theorem pre_L : ∀ {l : List UInt8}, 1 ≤ l.length → Lib.hasPrefix l [32] = (btL l 0 == 32)
  | [], h => by simp at h
  | x :: l, _ => by
    unfold Lib.hasPrefix btL
    simp only [List.isPrefixOf, Bool.and_true, List.getD_cons_zero]
    exact byte_beq x
theorem suf_L {l : List UInt8} (h : 1 ≤ l.length) : Lib.hasSuffix l [32] = (btL l (l.length - 1) == 32) := by
  obtain ⟨r, x, rfl⟩ : ∃ r x, l = r ++ [x] := by
    rcases List.eq_nil_or_concat l with rfl | ⟨r, x, rfl⟩
    · simp at h
    · exact ⟨r, x, by simp⟩
  have e : (r ++ [x]).length - 1 = r.length + 0 := by simp
  rw [e, bt_back]
  unfold Lib.hasSuffix btL List.isSuffixOf
  simp only [List.reverse_append, List.reverse_cons, List.reverse_nil, List.nil_append, List.singleton_append, List.isPrefixOf, Bool.and_true, List.getD_cons_zero]
  exact byte_beq x
theorem mayRune_any (r : Nat) (B : Bool) (w : World) (h : r ≤ 1114111) (hB : mayR r = B) :
    Calls Tryz.prog 142 #[.int .i32 r] w fun e w' => e = .returned (.bool B) ∧ w = w' := by
  rcases (by omega : r < 32 ∨ (32 ≤ r ∧ r < 127 ∧ r ≠ 47) ∨ r = 47 ∨ (127 ≤ r ∧ r ≤ 159) ∨ 159 < r) with h1 | ⟨h1, h2, h3⟩ | h1 | ⟨h1, h2⟩ | h1
  · have hb : B = false := by rw [← hB]; unfold mayR; simp; omega
    subst hb
    have q1 : (r : Int) < 32 := by omega
    clear hB h
    go_enter Tryz.func142, Tryz.ntmps142
    go_wp2
    go_ret
    exact ⟨rfl, rfl⟩
  · have hb : B = true := by rw [← hB]; unfold mayR; simp; omega
    subst hb
    have q1 : ¬ (r : Int) < 32 := by omega
    have q2 : ¬ (127 : Int) ≤ (r : Int) := by omega
    have q4 : ((r : Int) != 47) = true := by simp; omega
    clear hB h
    go_enter Tryz.func142, Tryz.ntmps142
    go_wp2
    go_ret
    exact ⟨rfl, rfl⟩
  · have hb : B = false := by rw [← hB]; unfold mayR; simp; omega
    subst hb
    have q1 : ¬ (r : Int) < 32 := by omega
    have q2 : ¬ (127 : Int) ≤ (r : Int) := by omega
    have q4 : ((r : Int) != 47) = false := by simp; omega
    clear hB h
    go_enter Tryz.func142, Tryz.ntmps142
    go_wp2
    go_ret
    exact ⟨rfl, rfl⟩
  · have hb : B = false := by rw [← hB]; unfold mayR; simp; omega
    subst hb
    have q1 : ¬ (r : Int) < 32 := by omega
    have q2 : (127 : Int) ≤ (r : Int) := by omega
    have q3 : (r : Int) ≤ 159 := by omega
    clear hB h
    go_enter Tryz.func142, Tryz.ntmps142
    go_wp2
    go_ret
    exact ⟨rfl, rfl⟩
  · have hb : B = true := by rw [← hB]; unfold mayR; simp; omega
    subst hb
    have q1 : ¬ (r : Int) < 32 := by omega
    have q2 : (127 : Int) ≤ (r : Int) := by omega
    have q3 : ¬ (r : Int) ≤ 159 := by omega
    have q4 : ((r : Int) != 47) = true := by simp; omega
    clear hB h
    go_enter Tryz.func142, Tryz.ntmps142
    go_wp2
    go_ret
    exact ⟨rfl, rfl⟩
theorem less_any (a b : ByteArray) (B : Bool) (w : World) (hB : Op.bytesLess a.toList b.toList = B) :
    Calls Tryz.prog 167 #[.string a, .string b] w fun e w' => e = .returned (.bool B) ∧ w = w' := by
  go_enter Tryz.func167, Tryz.ntmps167
  go_wp2
  go_ret
  exact ⟨by rw [← hB]; rfl, rfl⟩
end Go.Proofs.YteokeghenjobaaaGreatDoor
namespace Go.Proofs.YteokeghenjobaaaGreatDoor
open Go.ChangeShapes Go.WideShapes Go.ChangeAt Go.RowKit
theorem name_parts {l : List UInt8} {V P S A : Bool} (h1 : 1 ≤ l.length) (h2 : l.length ≤ 20) (hV : validL l = V) (hP : (btL l 0 == 32) = P) (hS : (btL l (l.length - 1) == 32) = S) (hA : allFrom l l.length 0 = A) :
    nameB l = (!P && (!S && (V && A))) := by
  unfold nameB
  rw [decide_eq_true h1, decide_eq_true h2, hP, hS, may_split, hA, show okFrom l l.length 0 = V from hV]
  simp
theorem name_short {l : List UInt8} (h : ¬ (1 ≤ l.length ∧ l.length ≤ 20)) : nameB l = false := by
  cases hq : nameB l
  · rfl
  · have := name_iff.1 hq
    exact absurd ⟨this.1, this.2.1⟩ h
theorem may_any (s : ByteArray) (B : Bool) (w : World) (hs : s.size ≤ 100000) (hT : Tabs w) (hB : nameB s.data.toList = B) :
    Calls Tryz.prog 93 #[.string s] w fun e w' => e = .returned (.bool B) ∧ Below w.heap.size w w' := by
  have hsz := size_L s
  have HS : Hid (s.size ≤ 100000) := Lib.hid hs
  have HT := Lib.hid hT
  by_cases h1 : s.size < 1
  · rw [name_short (by omega)] at hB
    subst hB
    have q1 : (s.size : Int) < 1 := by omega
    clear hs hT hsz h1
    go_enter Tryz.func93, Tryz.ntmps93
    go_wp2
    go_ret
    exact ⟨rfl, Below.refl _ _⟩
  have q1 : ¬ (s.size : Int) < 1 := by omega
  by_cases h2 : 20 < s.size
  · rw [name_short (by omega)] at hB
    subst hB
    have q2 : (20 : Int) < (s.size : Int) := by omega
    clear hs hT hsz h1 h2
    go_enter Tryz.func93, Tryz.ntmps93
    go_wp2
    go_ret
    exact ⟨rfl, Below.refl _ _⟩
  have q2 : ¬ (20 : Int) < (s.size : Int) := by omega
  obtain ⟨V, hV⟩ : ∃ V, validL s.data.toList = V := ⟨_, rfl⟩
  obtain ⟨P, hP⟩ : ∃ V, (btL s.data.toList 0 == 32) = V := ⟨_, rfl⟩
  obtain ⟨F, hF⟩ : ∃ V, (btL s.data.toList (s.data.toList.length - 1) == 32) = V := ⟨_, rfl⟩
  obtain ⟨A, hA⟩ : ∃ V, allFrom s.data.toList s.data.toList.length 0 = V := ⟨_, rfl⟩
  rw [name_parts (by omega) (by omega) hV hP hF hA] at hB
  rw [← pre_L (by omega)] at hP
  rw [← suf_L (by omega)] at hF
  have HV := Lib.hid hV
  have HP := Lib.hid hP
  have HF := Lib.hid hF
  obtain ⟨L, hL⟩ : ∃ L, s.data.toList = L := ⟨_, rfl⟩
  rw [hL] at hA hsz
  have HL := Lib.hid hL
  have hA0 : allFrom L L.length 0 = A := hA
  clear hV hP hF hL hs hT h1 hA
  cases V
  · have hb : B = false := by rw [← hB]; simp
    subst hb
    clear hB hA0
    go_enter Tryz.func93, Tryz.ntmps93
    go_wp2_with (first
      | (go_at_call 140; refine (valid_any s _ _ HS.out HT.out HV.out).mono ?_; rintro e' w1 ⟨rfl, hb⟩)
      | (go_at_call 69; refine (prefix_any s _ _ HP.out).mono ?_; rintro e' w2 ⟨rfl, rfl⟩)
      | (go_at_call 141; refine (suffix_any s _ _ HS.out HF.out).mono ?_; rintro e' w3 ⟨rfl, rfl⟩))
    go_ret
    exact ⟨rfl, hb⟩
  cases P
  case true =>
    have hb : B = false := by rw [← hB]; simp
    subst hb
    clear hB hA0
    go_enter Tryz.func93, Tryz.ntmps93
    go_wp2_with (first
      | (go_at_call 140; refine (valid_any s _ _ HS.out HT.out HV.out).mono ?_; rintro e' w1 ⟨rfl, hb⟩)
      | (go_at_call 69; refine (prefix_any s _ _ HP.out).mono ?_; rintro e' w2 ⟨rfl, rfl⟩)
      | (go_at_call 141; refine (suffix_any s _ _ HS.out HF.out).mono ?_; rintro e' w3 ⟨rfl, rfl⟩))
    go_ret
    exact ⟨rfl, hb⟩
  cases F
  case true =>
    have hb : B = false := by rw [← hB]; simp
    subst hb
    clear hB hA0
    go_enter Tryz.func93, Tryz.ntmps93
    go_wp2_with (first
      | (go_at_call 140; refine (valid_any s _ _ HS.out HT.out HV.out).mono ?_; rintro e' w1 ⟨rfl, hb⟩)
      | (go_at_call 69; refine (prefix_any s _ _ HP.out).mono ?_; rintro e' w2 ⟨rfl, rfl⟩)
      | (go_at_call 141; refine (suffix_any s _ _ HS.out HF.out).mono ?_; rintro e' w3 ⟨rfl, rfl⟩))
    go_ret
    exact ⟨rfl, hb⟩
  have hb : B = A := by rw [← hB]; simp
  subst hb
  clear hB
  go_enter Tryz.func93, Tryz.ntmps93
  go_wp2_with (first
      | (go_at_call 140; refine (valid_any s _ _ HS.out HT.out HV.out).mono ?_; rintro e' w1 ⟨rfl, hb⟩)
      | (go_at_call 69; refine (prefix_any s _ _ HP.out).mono ?_; rintro e' w2 ⟨rfl, rfl⟩)
      | (go_at_call 141; refine (suffix_any s _ _ HS.out HF.out).mono ?_; rintro e' w3 ⟨rfl, rfl⟩))
  obtain ⟨w0, rfl⟩ : ∃ W : World, W = w1 := ⟨_, rfl⟩
  go_loopw [4] (fun v wr => ∃ p b : Nat, wr = w0.iter s p ∧ Hid (allFrom L b p = B ∧ L.length ≤ p + b)) (fun _ wr => s.size - wr.iterPos w0.heap.size)
  case atStart => exact ⟨0, L.length, rfl, Lib.hid ⟨hA0, by omega⟩⟩
  case round =>
    obtain ⟨p, b, rfl, HI⟩ := hrel
    obtain ⟨i1, i2⟩ := HI.out
    clear hA0
    by_cases hp : p < s.size
    · have hnx : ∀ ty, (Instr.next (.pointer (some ⟨w0.heap.size, 0, none⟩)) true ty).run Tryz.prog (w0.iter s p) = _ := fun ty => run_next_any w0 s p ty hp
      obtain ⟨b', rfl⟩ : ∃ b', b = b' + 1 := ⟨b - 1, by omega⟩
      rw [allFrom, if_pos (by omega)] at i1
      have hd : Utf8.decode s p = decL L p := by rw [decode_L, HL.out]
      have hr := Lib.rune_le s p
      have hw := Lib.width_pos s p
      rw [hd] at hnx hr hw
      obtain ⟨R, N, hrn⟩ : ∃ R N, decL L p = (R, N) := ⟨_, _, rfl⟩
      rw [hrn] at hnx hr hw i1
      simp only [] at hnx hr hw i1
      obtain ⟨m, hm⟩ : ∃ m, mayR R = m := ⟨_, rfl⟩
      rw [hm] at i1
      have HM := Lib.hid hm
      have HR1 : Hid (R ≤ 1114111) := Lib.hid hr
      have HW : Hid (1 ≤ N) := Lib.hid hw
      clear hd hr hw hrn hm
      cases m
      · rw [if_neg (by simp)] at i1
        subst i1
        go_wp2_with (go_at_call 142; refine (mayRune_any R _ _ HR1.out HM.out).mono ?_; rintro e' w4 ⟨rfl, rfl⟩)
        go_ret
        exact ⟨rfl, hb.alloc hb.size _⟩
      · rw [if_pos rfl] at i1
        have HK : Hid (allFrom L b' (p + N) = B ∧ L.length ≤ p + N + b') := Lib.hid ⟨i1, by have := HW.out; omega⟩
        clear i1
        go_wp2_with (go_at_call 142; refine (mayRune_any R _ _ HR1.out HM.out).mono ?_; rintro e' w4 ⟨rfl, rfl⟩)
        go_roundw
        case rel => exact ⟨p + N, b', rfl, HK⟩
        case measure =>
          have := HW.out
          simp
          omega
    · have hnx : ∀ ty, (Instr.next (.pointer (some ⟨w0.heap.size, 0, none⟩)) true ty).run Tryz.prog (w0.iter s p) = _ := fun ty => run_next_end w0 s p ty hp
      have hv : B = true := by
        rw [← i1]
        cases b with
        | zero => rfl
        | succ b => rw [allFrom, if_neg (by omega)]
      subst hv
      clear i1 i2
      go_wp2
      go_ret
      exact ⟨rfl, hb.alloc hb.size _⟩
theorem nmay_any (s : ByteArray) (B : Bool) (w : World) (hT : Tabs w) (hB : nameB s.data.toList = B) :
    Calls Tryz.prog 93 #[.string s] w fun e w' => e = .returned (.bool B) ∧ Below w.heap.size w w' := by
  by_cases hs : s.size ≤ 100000
  · exact may_any s B w hs hT hB
  · have hsz := size_L s
    rw [name_short (by omega)] at hB
    subst hB
    have q1 : ¬ (s.size : Int) < 1 := by omega
    have q2 : (20 : Int) < (s.size : Int) := by omega
    clear hs hT hsz
    go_enter Tryz.func93, Tryz.ntmps93
    go_wp2
    go_ret
    exact ⟨rfl, Below.refl _ _⟩
end Go.Proofs.YteokeghenjobaaaGreatDoor
namespace Go.Proofs.YteokeghenjobaaaGreatDoor
open Go.ChangeShapes Go.WideShapes Go.ChangeAt Go.RowKit
attribute [local go_sem ↓] Go.wp_at_zero Go.wp_at_succ
def prevT (l : List ByteArray) : Nat → List ByteArray
  | 0 => []
  | k + 1 => [l.getD k ByteArray.empty]
theorem drop_next {α : Type} {l : List α} {k : Nat} {x : α} (h : l[k]? = some x) : l.drop k = x :: l.drop (k + 1) := by
  obtain ⟨hlt, rfl⟩ := List.getElem?_eq_some_iff.1 h
  exact List.drop_eq_getElem_cons hlt
theorem prevT_at {l : List ByteArray} {k : Nat} {x : ByteArray} (h : l[k]? = some x) : prevT l (k + 1) = [x] := by
  show [l.getD k ByteArray.empty] = [x]
  rw [List.getD_eq_getElem?_getD, h]
  rfl
theorem tags_first {l : List ByteArray} {x : ByteArray} (h : l[0]? = some x) : tagsFrom (prevT l 0) (l.drop 0) = (mayN x && tagsFrom (prevT l 1) (l.drop 1)) := by
  rw [drop_next h]
  have e2 : prevT l 1 = [x] := prevT_at h
  rw [e2]
  rfl
theorem tags_next {l : List ByteArray} {k : Nat} {x p : ByteArray} (h : l[k + 1]? = some x) (hp : l[k]? = some p) : tagsFrom (prevT l (k + 1)) (l.drop (k + 1)) = (mayN x && (lessS p x && tagsFrom (prevT l (k + 2)) (l.drop (k + 2)))) := by
  rw [drop_next h]
  have e2 : prevT l (k + 2) = [x] := prevT_at h
  have e1 : prevT l (k + 1) = [p] := prevT_at hp
  rw [e2, e1]
  rfl
theorem tags_end {l : List ByteArray} {p : List ByteArray} : tagsFrom p (l.drop l.length) = true := by
  rw [List.drop_length]
  rfl
theorem mayTags_any (l : List ByteArray) (A : Option Addr) (cp : Nat) (w : World) (hS : Sl w w.heap.size A (l.map strV)) (hc : l.length ≤ cp) (hm : cp ≤ maxLen) (hT : Tabs w) (T : Bool) (hB : mayTg l = T) :
    Calls Tryz.prog 146 #[.slice A l.length cp] w fun e' w' => e' = .returned (.bool T) ∧ Below w.heap.size w w' := by
  obtain ⟨n, hn⟩ : ∃ n, l.length = n := ⟨_, rfl⟩
  rw [hn] at hc ⊢
  unfold mayTg at hB
  rw [hn] at hB
  have HT := Lib.hid hT
  clear hT
  by_cases h4 : n ≤ 4
  · rw [decide_eq_true h4, Bool.true_and] at hB
    have HN := Lib.hid hn
    have HTG : Hid (tagsFrom (prevT l 0) (l.drop 0) = T) := Lib.hid (by rw [List.drop_zero]; exact hB)
    clear hn hB
    have HB0 : Below w.heap.size w w := Below.refl _ _
    go_enter Tryz.func146, Tryz.ntmps146
    go_wp2_with fail
    go_loopw [10] (fun i wr => ∃ k : Nat, k ≤ n ∧ i = .int .i64 k ∧ Hid (tagsFrom (prevT l k) (l.drop k) = T) ∧ Below w.heap.size w wr) (fun i _ => n - (intOf i).toNat)
    case atStart => exact ⟨0, by omega, rfl, HTG, HB0⟩
    case round =>
      obtain ⟨k, hk, rfl, HK, HBr⟩ := hrel
      clear HTG HB0
      have TT := HT.out.next HBr
      have HTT := Lib.hid TT
      clear TT
      by_cases hlt : k < n
      · have hlx : k < l.length := by have := HN.out; omega
        obtain ⟨b1, o1, rfl, l1, q1⟩ := hS.at_ (by rw [List.length_map]; omega)
        obtain ⟨x, hx⟩ : ∃ x, l[k]? = some x := ⟨_, List.getElem?_eq_getElem hlx⟩
        have cx : wr.cell? ⟨b1, o1 + k, none⟩ = some (.string x) := (HBr.cell (p := ⟨b1, _, none⟩) l1).trans (q1 k _ (by rw [List.getElem?_map, hx]; rfl))
        have r1 : b1 < wr.heap.size := by have := HBr.size; omega
        have i0 : (0 : Int) ≤ (k : Int) := by omega
        have i1 : (k : Int) < (n : Int) := by omega
        obtain ⟨M, hM⟩ : ∃ M, mayN x = M := ⟨_, rfl⟩
        have HM : Hid (nameB x.data.toList = M) := Lib.hid hM
        rcases k with _ | k
        · simp only [Nat.add_zero] at cx
          have ht := tags_first hx
          rw [hM, HK.out] at ht
          cases M
          · have HT2 : Hid (T = false) := Lib.hid ht
            clear q1 ht hM hx hlx
            go_wp2_with (go_at_call 93; ((with_reducible refine (nmay_any x _ _ HTT.out HM.out).mono ?_); rintro e' wN ⟨rfl, hb3⟩; have HBr := btr HBr HBr.size hb3; clear hb3))
            go_ret
            exact ⟨by rw [HT2.out]; rfl, HBr⟩
          · have HT2 : Hid (tagsFrom (prevT l 1) (l.drop 1) = T) := Lib.hid (by rw [ht]; rfl)
            clear q1 ht hM hx hlx
            go_wp2_with (go_at_call 93; ((with_reducible refine (nmay_any x _ _ HTT.out HM.out).mono ?_); rintro e' wN ⟨rfl, hb3⟩; have HBr := btr HBr HBr.size hb3; clear hb3))
            go_roundw
            case rel => exact ⟨1, by omega, by go_num, HT2, HBr⟩
            case measure => simp [intOf]; omega
        · obtain ⟨p, hp⟩ : ∃ x, l[k]? = some x := ⟨_, List.getElem?_eq_getElem (by omega)⟩
          have cp1 : wr.cell? ⟨b1, o1 + k, none⟩ = some (.string p) := (HBr.cell (p := ⟨b1, _, none⟩) l1).trans (q1 k _ (by rw [List.getElem?_map, hp]; rfl))
          obtain ⟨L, hL⟩ : ∃ L, lessS p x = L := ⟨_, rfl⟩
          have HL : Hid (Op.bytesLess p.toList x.toList = L) := Lib.hid hL
          have ht := tags_next hx hp
          rw [hM, hL, HK.out] at ht
          have j0 : (0 : Int) ≤ ((k + 1 : Nat) : Int) - 1 := by omega
          have j1 : ((k + 1 : Nat) : Int) - 1 < (n : Int) := by omega
          have j2 : (0 : Int) < ((k + 1 : Nat) : Int) := by omega
          have j3 : (((k + 1 : Nat) : Int) - 1).toNat = k := by omega
          cases M
          · have HT2 : Hid (T = false) := Lib.hid ht
            clear q1 ht hM hx hlx hp hL
            go_wp2_with (go_at_call 93; ((with_reducible refine (nmay_any x _ _ HTT.out HM.out).mono ?_); rintro e' wN ⟨rfl, hb3⟩; (have cx0 : wN.cell? ⟨b1, o1 + k, none⟩ = _ := (hb3.cell (p := ⟨b1, _, none⟩) r1).trans cp1); have HBr := btr HBr HBr.size hb3; clear hb3))
            go_ret
            exact ⟨by rw [HT2.out]; rfl, HBr⟩
          · cases L
            · have HT2 : Hid (T = false) := Lib.hid ht
              clear q1 ht hM hx hlx hp hL
              go_wp2_with (first | (go_at_call 93; ((with_reducible refine (nmay_any x _ _ HTT.out HM.out).mono ?_); rintro e' wN ⟨rfl, hb3⟩; (have cx0 : wN.cell? ⟨b1, o1 + k, none⟩ = _ := (hb3.cell (p := ⟨b1, _, none⟩) r1).trans cp1); have HBr := btr HBr HBr.size hb3; clear hb3)) | (go_at_call 167; ((with_reducible refine (less_any p x _ _ HL.out).mono ?_); rintro e' wM ⟨rfl, rfl⟩)))
              go_ret
              exact ⟨by rw [HT2.out]; rfl, HBr⟩
            · have HT2 : Hid (tagsFrom (prevT l (k + 2)) (l.drop (k + 2)) = T) := Lib.hid (by rw [ht]; rfl)
              clear q1 ht hM hx hlx hp hL
              go_wp2_with (first | (go_at_call 93; ((with_reducible refine (nmay_any x _ _ HTT.out HM.out).mono ?_); rintro e' wN ⟨rfl, hb3⟩; (have cx0 : wN.cell? ⟨b1, o1 + k, none⟩ = _ := (hb3.cell (p := ⟨b1, _, none⟩) r1).trans cp1); have HBr := btr HBr HBr.size hb3; clear hb3)) | (go_at_call 167; ((with_reducible refine (less_any p x _ _ HL.out).mono ?_); rintro e' wM ⟨rfl, rfl⟩)))
              go_roundw
              case rel => exact ⟨k + 2, by omega, by go_num, HT2, HBr⟩
              case measure => simp [intOf]; omega
      · have hjn : k = n := by omega
        subst hjn
        have ht := HK.out
        rw [← HN.out, tags_end] at ht
        clear hlt
        go_wp2_with fail
        go_ret
        exact ⟨by rw [← ht]; rfl, HBr⟩
  · rw [decide_eq_false h4, Bool.false_and] at hB
    subst hB
    have q4 : (4 : Int) < (n : Int) := by omega
    clear hn h4
    go_enter Tryz.func146, Tryz.ntmps146
    go_wp2
    go_ret
    exact ⟨rfl, Below.refl _ _⟩
theorem mayNote_any (s : Sf) (v : Value) (n : Nt) (e : List Value) (w : World) (hS : ShR w w.heap.size v s) (hN0 : NtIn w w.heap.size n e) (hT : Tabs w) (T : Bool) (hB0 : mayNt s n = T) :
    Calls Tryz.prog 95 #[v, .agg e.toArray] w fun e' w' => e' = .returned (.bool T) ∧ Below w.heap.size w w' := by
  have hS0 := hS
  obtain ⟨Ab, cb, An, cn, rfl, hB, hN, hcb, hmb, hcn, hmn⟩ := hS.ex
  clear hS
  obtain ⟨At, ct, As, cs, rfl, hAt, hAs, htc, htm, hsc, hsm⟩ := hN0.ex
  clear hN0
  show Calls Tryz.prog 95 #[.agg #[.int .i64 s.nb, .int .i64 s.nn, .int .i64 s.ns, .slice Ab s.bs.length cb, .slice An s.ts.length cn], .agg #[.int .i64 n.id, .int .i64 n.bk, .string n.nm, .slice At n.tg.length ct, .slice As n.sh.length cs]] w _
  have HB : Below w.heap.size w ((w.alloc (.cells #[.int .i64 s.nb, .int .i64 s.nn, .int .i64 s.ns, .slice Ab s.bs.length cb, .slice An s.ts.length cn] 25)).alloc (.cells #[.int .i64 n.id, .int .i64 n.bk, .string n.nm, .slice At n.tg.length ct, .slice As n.sh.length cs] 54)) := (((Below.refl w.heap.size w).alloc (by first | (simp; done) | (simp; omega)) _).alloc (by first | (simp; done) | (simp; omega)) _)
  have B1 : Blk ((w.alloc (.cells #[.int .i64 s.nb, .int .i64 s.nn, .int .i64 s.ns, .slice Ab s.bs.length cb, .slice An s.ts.length cn] 25)).alloc (.cells #[.int .i64 n.id, .int .i64 n.bk, .string n.nm, .slice At n.tg.length ct, .slice As n.sh.length cs] 54)) w.heap.size 25 #[.int .i64 s.nb, .int .i64 s.nn, .int .i64 s.ns, .slice Ab s.bs.length cb, .slice An s.ts.length cn] := (Blk.new_ w 25 #[.int .i64 s.nb, .int .i64 s.nn, .int .i64 s.ns, .slice Ab s.bs.length cb, .slice An s.ts.length cn]).alloc_ (.cells #[.int .i64 n.id, .int .i64 n.bk, .string n.nm, .slice At n.tg.length ct, .slice As n.sh.length cs] 54)
  have B2 : Blk ((w.alloc (.cells #[.int .i64 s.nb, .int .i64 s.nn, .int .i64 s.ns, .slice Ab s.bs.length cb, .slice An s.ts.length cn] 25)).alloc (.cells #[.int .i64 n.id, .int .i64 n.bk, .string n.nm, .slice At n.tg.length ct, .slice As n.sh.length cs] 54)) (w.heap.size + 1) 54 #[.int .i64 n.id, .int .i64 n.bk, .string n.nm, .slice At n.tg.length ct, .slice As n.sh.length cs] := by
    have := Blk.new_ (w.alloc (.cells #[.int .i64 s.nb, .int .i64 s.nn, .int .i64 s.ns, .slice Ab s.bs.length cb, .slice An s.ts.length cn] 25)) 54 #[.int .i64 n.id, .int .i64 n.bk, .string n.nm, .slice At n.tg.length ct, .slice As n.sh.length cs]
    simpa using this
  have S1 : ShR ((w.alloc (.cells #[.int .i64 s.nb, .int .i64 s.nn, .int .i64 s.ns, .slice Ab s.bs.length cb, .slice An s.ts.length cn] 25)).alloc (.cells #[.int .i64 n.id, .int .i64 n.bk, .string n.nm, .slice At n.tg.length ct, .slice As n.sh.length cs] 54)) ((w.alloc (.cells #[.int .i64 s.nb, .int .i64 s.nn, .int .i64 s.ns, .slice Ab s.bs.length cb, .slice An s.ts.length cn] 25)).alloc (.cells #[.int .i64 n.id, .int .i64 n.bk, .string n.nm, .slice At n.tg.length ct, .slice As n.sh.length cs] 54)).heap.size (.agg #[.int .i64 s.nb, .int .i64 s.nn, .int .i64 s.ns, .slice Ab s.bs.length cb, .slice An s.ts.length cn]) s := hS0.next HB
  have T1 := hT.next HB
  have A1 : Sl ((w.alloc (.cells #[.int .i64 s.nb, .int .i64 s.nn, .int .i64 s.ns, .slice Ab s.bs.length cb, .slice An s.ts.length cn] 25)).alloc (.cells #[.int .i64 n.id, .int .i64 n.bk, .string n.nm, .slice At n.tg.length ct, .slice As n.sh.length cs] 54)) ((w.alloc (.cells #[.int .i64 s.nb, .int .i64 s.nn, .int .i64 s.ns, .slice Ab s.bs.length cb, .slice An s.ts.length cn] 25)).alloc (.cells #[.int .i64 n.id, .int .i64 n.bk, .string n.nm, .slice At n.tg.length ct, .slice As n.sh.length cs] 54)).heap.size At (n.tg.map strV) := (hAt.below HB).mono_ HB.size
  clear hS0 hT hB hN hAt hAs hcb hmb hcn hmn
  obtain ⟨M, hM⟩ : ∃ M, mayN n.nm = M := ⟨_, rfl⟩
  have HM : Hid (nameB n.nm.data.toList = M) := Lib.hid hM
  obtain ⟨I, hI⟩ : ∃ I, bookAt s n.bk = I := ⟨_, rfl⟩
  have HI := Lib.hid hI
  obtain ⟨K, hK⟩ : ∃ K, noteTk s n.bk n.nm n.id = K := ⟨_, rfl⟩
  have HK := Lib.hid hK
  obtain ⟨G, hG⟩ : ∃ G, mayTg n.tg = G := ⟨_, rfl⟩
  have HG := Lib.hid hG
  unfold mayNt at hB0
  rw [hM, hI, hK, hG] at hB0
  have HE := Lib.hid hB0
  clear hM hI hK hG hB0
  cases M
  · skip
    go_enter Tryz.func95, Tryz.ntmps95
    go_wp2_with (first
      | (go_at_call 93; ((with_reducible refine (nmay_any n.nm _ _ T1 HM.out).mono ?_); rintro e' w3 ⟨rfl, b3⟩; have S1 := S1.next b3; have T1 := T1.next b3; have A1 := (A1.below b3).mono_ (Below.size b3); have B1 := B1.below b3 B1.lt; have B2 := B2.below b3 B2.lt; have HB := btr HB HB.size b3; (try clear k0 k1 k2 k3 k4 m0 m1 m2 m3 m4); have k0 := B1.cell_ 0; have k1 := B1.cell_ 1; have k2 := B1.cell_ 2; have k3 := B1.cell_ 3; have k4 := B1.cell_ 4; have m0 := B2.cell_ 0; have m1 := B2.cell_ 1; have m2 := B2.cell_ 2; have m3 := B2.cell_ 3; have m4 := B2.cell_ 4; simp at k0 k1 k2 k3 k4 m0 m1 m2 m3 m4; clear b3))
      | (go_at_call 36; ((with_reducible refine (pBook_any s _ n.bk _ S1).mono ?_); rintro e' w4 ⟨rfl, b4⟩; rw [HI.out]; have S1 := S1.next b4; have T1 := T1.next b4; have A1 := (A1.below b4).mono_ (Below.size b4); have B1 := B1.below b4 B1.lt; have B2 := B2.below b4 B2.lt; have HB := btr HB HB.size b4; (try clear k0 k1 k2 k3 k4 m0 m1 m2 m3 m4); have k0 := B1.cell_ 0; have k1 := B1.cell_ 1; have k2 := B1.cell_ 2; have k3 := B1.cell_ 3; have k4 := B1.cell_ 4; have m0 := B2.cell_ 0; have m1 := B2.cell_ 1; have m2 := B2.cell_ 2; have m3 := B2.cell_ 3; have m4 := B2.cell_ 4; simp at k0 k1 k2 k3 k4 m0 m1 m2 m3 m4; clear b4))
      | (go_at_call 145; ((with_reducible refine (nTaken_any s _ n.bk n.nm n.id _ S1 _ HK.out).mono ?_); rintro e' w5 ⟨rfl, b5⟩; have S1 := S1.next b5; have T1 := T1.next b5; have A1 := (A1.below b5).mono_ (Below.size b5); have B1 := B1.below b5 B1.lt; have B2 := B2.below b5 B2.lt; have HB := btr HB HB.size b5; (try clear k0 k1 k2 k3 k4 m0 m1 m2 m3 m4); have k0 := B1.cell_ 0; have k1 := B1.cell_ 1; have k2 := B1.cell_ 2; have k3 := B1.cell_ 3; have k4 := B1.cell_ 4; have m0 := B2.cell_ 0; have m1 := B2.cell_ 1; have m2 := B2.cell_ 2; have m3 := B2.cell_ 3; have m4 := B2.cell_ 4; simp at k0 k1 k2 k3 k4 m0 m1 m2 m3 m4; clear b5))
      | (go_at_call 146; ((with_reducible refine (mayTags_any n.tg _ _ _ A1 htc htm T1 _ HG.out).mono ?_); rintro e' w6 ⟨rfl, b6⟩; have S1 := S1.next b6; have T1 := T1.next b6; have A1 := (A1.below b6).mono_ (Below.size b6); have B1 := B1.below b6 B1.lt; have B2 := B2.below b6 B2.lt; have HB := btr HB HB.size b6; (try clear k0 k1 k2 k3 k4 m0 m1 m2 m3 m4); have k0 := B1.cell_ 0; have k1 := B1.cell_ 1; have k2 := B1.cell_ 2; have k3 := B1.cell_ 3; have k4 := B1.cell_ 4; have m0 := B2.cell_ 0; have m1 := B2.cell_ 1; have m2 := B2.cell_ 2; have m3 := B2.cell_ 3; have m4 := B2.cell_ 4; simp at k0 k1 k2 k3 k4 m0 m1 m2 m3 m4; clear b6)))
    go_ret
    exact ⟨by first | (rw [← HE.out]; rfl) | (rw [← HE.out, decide_eq_true (by omega : (0 : Int) ≤ I)]; rfl) | (rw [← HE.out, decide_eq_false (by omega : ¬ (0 : Int) ≤ I)]; rfl), HB⟩
  · by_cases h0 : 0 ≤ I
    · cases K
      · cases G
        · skip
          go_enter Tryz.func95, Tryz.ntmps95
          go_wp2_with (first
            | (go_at_call 93; ((with_reducible refine (nmay_any n.nm _ _ T1 HM.out).mono ?_); rintro e' w3 ⟨rfl, b3⟩; have S1 := S1.next b3; have T1 := T1.next b3; have A1 := (A1.below b3).mono_ (Below.size b3); have B1 := B1.below b3 B1.lt; have B2 := B2.below b3 B2.lt; have HB := btr HB HB.size b3; (try clear k0 k1 k2 k3 k4 m0 m1 m2 m3 m4); have k0 := B1.cell_ 0; have k1 := B1.cell_ 1; have k2 := B1.cell_ 2; have k3 := B1.cell_ 3; have k4 := B1.cell_ 4; have m0 := B2.cell_ 0; have m1 := B2.cell_ 1; have m2 := B2.cell_ 2; have m3 := B2.cell_ 3; have m4 := B2.cell_ 4; simp at k0 k1 k2 k3 k4 m0 m1 m2 m3 m4; clear b3))
            | (go_at_call 36; ((with_reducible refine (pBook_any s _ n.bk _ S1).mono ?_); rintro e' w4 ⟨rfl, b4⟩; rw [HI.out]; have S1 := S1.next b4; have T1 := T1.next b4; have A1 := (A1.below b4).mono_ (Below.size b4); have B1 := B1.below b4 B1.lt; have B2 := B2.below b4 B2.lt; have HB := btr HB HB.size b4; (try clear k0 k1 k2 k3 k4 m0 m1 m2 m3 m4); have k0 := B1.cell_ 0; have k1 := B1.cell_ 1; have k2 := B1.cell_ 2; have k3 := B1.cell_ 3; have k4 := B1.cell_ 4; have m0 := B2.cell_ 0; have m1 := B2.cell_ 1; have m2 := B2.cell_ 2; have m3 := B2.cell_ 3; have m4 := B2.cell_ 4; simp at k0 k1 k2 k3 k4 m0 m1 m2 m3 m4; clear b4))
            | (go_at_call 145; ((with_reducible refine (nTaken_any s _ n.bk n.nm n.id _ S1 _ HK.out).mono ?_); rintro e' w5 ⟨rfl, b5⟩; have S1 := S1.next b5; have T1 := T1.next b5; have A1 := (A1.below b5).mono_ (Below.size b5); have B1 := B1.below b5 B1.lt; have B2 := B2.below b5 B2.lt; have HB := btr HB HB.size b5; (try clear k0 k1 k2 k3 k4 m0 m1 m2 m3 m4); have k0 := B1.cell_ 0; have k1 := B1.cell_ 1; have k2 := B1.cell_ 2; have k3 := B1.cell_ 3; have k4 := B1.cell_ 4; have m0 := B2.cell_ 0; have m1 := B2.cell_ 1; have m2 := B2.cell_ 2; have m3 := B2.cell_ 3; have m4 := B2.cell_ 4; simp at k0 k1 k2 k3 k4 m0 m1 m2 m3 m4; clear b5))
            | (go_at_call 146; ((with_reducible refine (mayTags_any n.tg _ _ _ A1 htc htm T1 _ HG.out).mono ?_); rintro e' w6 ⟨rfl, b6⟩; have S1 := S1.next b6; have T1 := T1.next b6; have A1 := (A1.below b6).mono_ (Below.size b6); have B1 := B1.below b6 B1.lt; have B2 := B2.below b6 B2.lt; have HB := btr HB HB.size b6; (try clear k0 k1 k2 k3 k4 m0 m1 m2 m3 m4); have k0 := B1.cell_ 0; have k1 := B1.cell_ 1; have k2 := B1.cell_ 2; have k3 := B1.cell_ 3; have k4 := B1.cell_ 4; have m0 := B2.cell_ 0; have m1 := B2.cell_ 1; have m2 := B2.cell_ 2; have m3 := B2.cell_ 3; have m4 := B2.cell_ 4; simp at k0 k1 k2 k3 k4 m0 m1 m2 m3 m4; clear b6)))
          go_ret
          exact ⟨by first | (rw [← HE.out]; rfl) | (rw [← HE.out, decide_eq_true (by omega : (0 : Int) ≤ I)]; rfl) | (rw [← HE.out, decide_eq_false (by omega : ¬ (0 : Int) ≤ I)]; rfl), HB⟩
        · skip
          go_enter Tryz.func95, Tryz.ntmps95
          go_wp2_with (first
            | (go_at_call 93; ((with_reducible refine (nmay_any n.nm _ _ T1 HM.out).mono ?_); rintro e' w3 ⟨rfl, b3⟩; have S1 := S1.next b3; have T1 := T1.next b3; have A1 := (A1.below b3).mono_ (Below.size b3); have B1 := B1.below b3 B1.lt; have B2 := B2.below b3 B2.lt; have HB := btr HB HB.size b3; (try clear k0 k1 k2 k3 k4 m0 m1 m2 m3 m4); have k0 := B1.cell_ 0; have k1 := B1.cell_ 1; have k2 := B1.cell_ 2; have k3 := B1.cell_ 3; have k4 := B1.cell_ 4; have m0 := B2.cell_ 0; have m1 := B2.cell_ 1; have m2 := B2.cell_ 2; have m3 := B2.cell_ 3; have m4 := B2.cell_ 4; simp at k0 k1 k2 k3 k4 m0 m1 m2 m3 m4; clear b3))
            | (go_at_call 36; ((with_reducible refine (pBook_any s _ n.bk _ S1).mono ?_); rintro e' w4 ⟨rfl, b4⟩; rw [HI.out]; have S1 := S1.next b4; have T1 := T1.next b4; have A1 := (A1.below b4).mono_ (Below.size b4); have B1 := B1.below b4 B1.lt; have B2 := B2.below b4 B2.lt; have HB := btr HB HB.size b4; (try clear k0 k1 k2 k3 k4 m0 m1 m2 m3 m4); have k0 := B1.cell_ 0; have k1 := B1.cell_ 1; have k2 := B1.cell_ 2; have k3 := B1.cell_ 3; have k4 := B1.cell_ 4; have m0 := B2.cell_ 0; have m1 := B2.cell_ 1; have m2 := B2.cell_ 2; have m3 := B2.cell_ 3; have m4 := B2.cell_ 4; simp at k0 k1 k2 k3 k4 m0 m1 m2 m3 m4; clear b4))
            | (go_at_call 145; ((with_reducible refine (nTaken_any s _ n.bk n.nm n.id _ S1 _ HK.out).mono ?_); rintro e' w5 ⟨rfl, b5⟩; have S1 := S1.next b5; have T1 := T1.next b5; have A1 := (A1.below b5).mono_ (Below.size b5); have B1 := B1.below b5 B1.lt; have B2 := B2.below b5 B2.lt; have HB := btr HB HB.size b5; (try clear k0 k1 k2 k3 k4 m0 m1 m2 m3 m4); have k0 := B1.cell_ 0; have k1 := B1.cell_ 1; have k2 := B1.cell_ 2; have k3 := B1.cell_ 3; have k4 := B1.cell_ 4; have m0 := B2.cell_ 0; have m1 := B2.cell_ 1; have m2 := B2.cell_ 2; have m3 := B2.cell_ 3; have m4 := B2.cell_ 4; simp at k0 k1 k2 k3 k4 m0 m1 m2 m3 m4; clear b5))
            | (go_at_call 146; ((with_reducible refine (mayTags_any n.tg _ _ _ A1 htc htm T1 _ HG.out).mono ?_); rintro e' w6 ⟨rfl, b6⟩; have S1 := S1.next b6; have T1 := T1.next b6; have A1 := (A1.below b6).mono_ (Below.size b6); have B1 := B1.below b6 B1.lt; have B2 := B2.below b6 B2.lt; have HB := btr HB HB.size b6; (try clear k0 k1 k2 k3 k4 m0 m1 m2 m3 m4); have k0 := B1.cell_ 0; have k1 := B1.cell_ 1; have k2 := B1.cell_ 2; have k3 := B1.cell_ 3; have k4 := B1.cell_ 4; have m0 := B2.cell_ 0; have m1 := B2.cell_ 1; have m2 := B2.cell_ 2; have m3 := B2.cell_ 3; have m4 := B2.cell_ 4; simp at k0 k1 k2 k3 k4 m0 m1 m2 m3 m4; clear b6)))
          go_ret
          exact ⟨by first | (rw [← HE.out]; rfl) | (rw [← HE.out, decide_eq_true (by omega : (0 : Int) ≤ I)]; rfl) | (rw [← HE.out, decide_eq_false (by omega : ¬ (0 : Int) ≤ I)]; rfl), HB⟩
      · skip
        go_enter Tryz.func95, Tryz.ntmps95
        go_wp2_with (first
          | (go_at_call 93; ((with_reducible refine (nmay_any n.nm _ _ T1 HM.out).mono ?_); rintro e' w3 ⟨rfl, b3⟩; have S1 := S1.next b3; have T1 := T1.next b3; have A1 := (A1.below b3).mono_ (Below.size b3); have B1 := B1.below b3 B1.lt; have B2 := B2.below b3 B2.lt; have HB := btr HB HB.size b3; (try clear k0 k1 k2 k3 k4 m0 m1 m2 m3 m4); have k0 := B1.cell_ 0; have k1 := B1.cell_ 1; have k2 := B1.cell_ 2; have k3 := B1.cell_ 3; have k4 := B1.cell_ 4; have m0 := B2.cell_ 0; have m1 := B2.cell_ 1; have m2 := B2.cell_ 2; have m3 := B2.cell_ 3; have m4 := B2.cell_ 4; simp at k0 k1 k2 k3 k4 m0 m1 m2 m3 m4; clear b3))
          | (go_at_call 36; ((with_reducible refine (pBook_any s _ n.bk _ S1).mono ?_); rintro e' w4 ⟨rfl, b4⟩; rw [HI.out]; have S1 := S1.next b4; have T1 := T1.next b4; have A1 := (A1.below b4).mono_ (Below.size b4); have B1 := B1.below b4 B1.lt; have B2 := B2.below b4 B2.lt; have HB := btr HB HB.size b4; (try clear k0 k1 k2 k3 k4 m0 m1 m2 m3 m4); have k0 := B1.cell_ 0; have k1 := B1.cell_ 1; have k2 := B1.cell_ 2; have k3 := B1.cell_ 3; have k4 := B1.cell_ 4; have m0 := B2.cell_ 0; have m1 := B2.cell_ 1; have m2 := B2.cell_ 2; have m3 := B2.cell_ 3; have m4 := B2.cell_ 4; simp at k0 k1 k2 k3 k4 m0 m1 m2 m3 m4; clear b4))
          | (go_at_call 145; ((with_reducible refine (nTaken_any s _ n.bk n.nm n.id _ S1 _ HK.out).mono ?_); rintro e' w5 ⟨rfl, b5⟩; have S1 := S1.next b5; have T1 := T1.next b5; have A1 := (A1.below b5).mono_ (Below.size b5); have B1 := B1.below b5 B1.lt; have B2 := B2.below b5 B2.lt; have HB := btr HB HB.size b5; (try clear k0 k1 k2 k3 k4 m0 m1 m2 m3 m4); have k0 := B1.cell_ 0; have k1 := B1.cell_ 1; have k2 := B1.cell_ 2; have k3 := B1.cell_ 3; have k4 := B1.cell_ 4; have m0 := B2.cell_ 0; have m1 := B2.cell_ 1; have m2 := B2.cell_ 2; have m3 := B2.cell_ 3; have m4 := B2.cell_ 4; simp at k0 k1 k2 k3 k4 m0 m1 m2 m3 m4; clear b5))
          | (go_at_call 146; ((with_reducible refine (mayTags_any n.tg _ _ _ A1 htc htm T1 _ HG.out).mono ?_); rintro e' w6 ⟨rfl, b6⟩; have S1 := S1.next b6; have T1 := T1.next b6; have A1 := (A1.below b6).mono_ (Below.size b6); have B1 := B1.below b6 B1.lt; have B2 := B2.below b6 B2.lt; have HB := btr HB HB.size b6; (try clear k0 k1 k2 k3 k4 m0 m1 m2 m3 m4); have k0 := B1.cell_ 0; have k1 := B1.cell_ 1; have k2 := B1.cell_ 2; have k3 := B1.cell_ 3; have k4 := B1.cell_ 4; have m0 := B2.cell_ 0; have m1 := B2.cell_ 1; have m2 := B2.cell_ 2; have m3 := B2.cell_ 3; have m4 := B2.cell_ 4; simp at k0 k1 k2 k3 k4 m0 m1 m2 m3 m4; clear b6)))
        go_ret
        exact ⟨by first | (rw [← HE.out]; rfl) | (rw [← HE.out, decide_eq_true (by omega : (0 : Int) ≤ I)]; rfl) | (rw [← HE.out, decide_eq_false (by omega : ¬ (0 : Int) ≤ I)]; rfl), HB⟩
    · skip
      go_enter Tryz.func95, Tryz.ntmps95
      go_wp2_with (first
        | (go_at_call 93; ((with_reducible refine (nmay_any n.nm _ _ T1 HM.out).mono ?_); rintro e' w3 ⟨rfl, b3⟩; have S1 := S1.next b3; have T1 := T1.next b3; have A1 := (A1.below b3).mono_ (Below.size b3); have B1 := B1.below b3 B1.lt; have B2 := B2.below b3 B2.lt; have HB := btr HB HB.size b3; (try clear k0 k1 k2 k3 k4 m0 m1 m2 m3 m4); have k0 := B1.cell_ 0; have k1 := B1.cell_ 1; have k2 := B1.cell_ 2; have k3 := B1.cell_ 3; have k4 := B1.cell_ 4; have m0 := B2.cell_ 0; have m1 := B2.cell_ 1; have m2 := B2.cell_ 2; have m3 := B2.cell_ 3; have m4 := B2.cell_ 4; simp at k0 k1 k2 k3 k4 m0 m1 m2 m3 m4; clear b3))
        | (go_at_call 36; ((with_reducible refine (pBook_any s _ n.bk _ S1).mono ?_); rintro e' w4 ⟨rfl, b4⟩; rw [HI.out]; have S1 := S1.next b4; have T1 := T1.next b4; have A1 := (A1.below b4).mono_ (Below.size b4); have B1 := B1.below b4 B1.lt; have B2 := B2.below b4 B2.lt; have HB := btr HB HB.size b4; (try clear k0 k1 k2 k3 k4 m0 m1 m2 m3 m4); have k0 := B1.cell_ 0; have k1 := B1.cell_ 1; have k2 := B1.cell_ 2; have k3 := B1.cell_ 3; have k4 := B1.cell_ 4; have m0 := B2.cell_ 0; have m1 := B2.cell_ 1; have m2 := B2.cell_ 2; have m3 := B2.cell_ 3; have m4 := B2.cell_ 4; simp at k0 k1 k2 k3 k4 m0 m1 m2 m3 m4; clear b4))
        | (go_at_call 145; ((with_reducible refine (nTaken_any s _ n.bk n.nm n.id _ S1 _ HK.out).mono ?_); rintro e' w5 ⟨rfl, b5⟩; have S1 := S1.next b5; have T1 := T1.next b5; have A1 := (A1.below b5).mono_ (Below.size b5); have B1 := B1.below b5 B1.lt; have B2 := B2.below b5 B2.lt; have HB := btr HB HB.size b5; (try clear k0 k1 k2 k3 k4 m0 m1 m2 m3 m4); have k0 := B1.cell_ 0; have k1 := B1.cell_ 1; have k2 := B1.cell_ 2; have k3 := B1.cell_ 3; have k4 := B1.cell_ 4; have m0 := B2.cell_ 0; have m1 := B2.cell_ 1; have m2 := B2.cell_ 2; have m3 := B2.cell_ 3; have m4 := B2.cell_ 4; simp at k0 k1 k2 k3 k4 m0 m1 m2 m3 m4; clear b5))
        | (go_at_call 146; ((with_reducible refine (mayTags_any n.tg _ _ _ A1 htc htm T1 _ HG.out).mono ?_); rintro e' w6 ⟨rfl, b6⟩; have S1 := S1.next b6; have T1 := T1.next b6; have A1 := (A1.below b6).mono_ (Below.size b6); have B1 := B1.below b6 B1.lt; have B2 := B2.below b6 B2.lt; have HB := btr HB HB.size b6; (try clear k0 k1 k2 k3 k4 m0 m1 m2 m3 m4); have k0 := B1.cell_ 0; have k1 := B1.cell_ 1; have k2 := B1.cell_ 2; have k3 := B1.cell_ 3; have k4 := B1.cell_ 4; have m0 := B2.cell_ 0; have m1 := B2.cell_ 1; have m2 := B2.cell_ 2; have m3 := B2.cell_ 3; have m4 := B2.cell_ 4; simp at k0 k1 k2 k3 k4 m0 m1 m2 m3 m4; clear b6)))
      go_ret
      exact ⟨by first | (rw [← HE.out]; rfl) | (rw [← HE.out, decide_eq_true (by omega : (0 : Int) ≤ I)]; rfl) | (rw [← HE.out, decide_eq_false (by omega : ¬ (0 : Int) ≤ I)]; rfl), HB⟩
end Go.Proofs.YteokeghenjobaaaGreatDoor
