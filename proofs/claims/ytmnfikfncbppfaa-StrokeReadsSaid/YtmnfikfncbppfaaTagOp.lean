/- A tag that comes in; how Lay answers, by cases; raw pages are alike only if all is. -/
import Derived.Test.YtmnfikfncbppfaaTagAw
import Derived.Test.YtmnfikfncbppfaaApp
import Derived.Test.YtmnfikfncbppfaaLendB
import Derived.Test.YtmnfikfncbppfaaSl2
import Derived.Deep.RegionHeld3
import Derived.Deep.DrawnRows
import Derived.Deep.DeepCutAuto
import Derived.Test.YtmnfikfncbppfaaOpenS2
import Derived.Test.YtmnfikfncbppfaaKeptB
import Derived.Test.YtmnfikfncbppfaaLow
namespace Go.Proofs.Ytmnfikfncbppfaa
open Go.ChangeShapes Go.WideShapes Go.ChangeAt Go.RowKit Go.Deep
attribute [local go_sem ↓] Go.wp_at_zero Go.wp_at_succ
set_option linter.unusedSimpArgs false
set_option linter.unusedVariables false

theorem agg4_value {H : Type} {enc : TypeId × Value → H} {P : Program} {w : World} {base : Nat} {spare : Nat → Bool} {held : Bool} {r : Reach} {b0 : Nat} {t ti : TypeId} {fs : Array Field} {v : Value} {d : DataW H} {p : List MemPlace} (hs : P.underlying t = some (.struct fs)) (hone : oneCellFields P fs = true)
    (hi : fs.all (fun f => f.type == ti) = true) (ht : P.underlying ti = some (.int .i64)) (hn : fs.size = 4) (hC : P.cellsOf t = 4) (hv : Value.okWide P w r b0 t v) (h : DataW.Trod enc P w base spare held t v d p) :
    ∃ a b c d, v = .agg #[.int .i64 a, .int .i64 b, .int .i64 c, .int .i64 d] ∧ i64in a ∧ i64in b ∧ i64in c ∧ i64in d := by
  obtain ⟨zs, hl, rfl, hw⟩ := agg_ints hs hone (fun i f hf => by rw [all_type hi i f hf]; exact ht) (by rw [hC, hn]) hv h
  match zs, hl.trans hn with
  | [a, b, c, d], _ => exact ⟨a, b, c, d, rfl, hw a (by simp), hw b (by simp), hw c (by simp), hw d (by simp)⟩

/-- Either Lay refuses, or the numbers are what may be laid. -/
theorem lay_cases (d : List Nat) (h8 : Bytes8 d) (k p s e : Int) : (mayDataB d.length = false ∨ tagB k p s e = false) ∨ ∃ K P S E : Nat, k = K ∧ p = P ∧ s = S ∧ e = E ∧ LayOk d K P S E := by
  by_cases h1 : mayDataB d.length = false
  · exact Or.inl (Or.inl h1)
  · by_cases h2 : tagB k p s e = false
    · exact Or.inl (Or.inr h2)
    · right
      have h2' := tagB_iff.1 (by simpa using h2 : tagB k p s e = true)
      have h1' : 24 ≤ d.length ∧ d.length ≤ 64 := by
        have : mayDataB d.length = true := by simpa using h1
        unfold mayDataB at this
        rw [Bool.and_eq_true, decide_eq_true_eq, decide_eq_true_eq] at this
        omega
      exact ⟨k.toNat, p.toNat, s.toNat, e.toNat, by omega, by omega, by omega, by omega, by omega, by omega, by omega, by omega, by omega, by omega, by omega, by omega, h8⟩

theorem raw_inj {a b : List Nat} {k p s e k' p' s' e' : Nat} (h : LayOk a k p s e) (h' : LayOk b k' p' s' e') : rawB a k p s e = rawB b k' p' s' e' ↔ a = b ∧ k = k' ∧ p = p' ∧ s = s' ∧ e = e' := by
  obtain ⟨_, _, _, _, _, a6, a7, a8, _⟩ := h
  obtain ⟨_, _, _, _, _, b6, b7, b8, _⟩ := h'
  constructor
  · intro he
    have hl := congrArg List.length he
    rw [rawB_len, rawB_len] at hl
    have hab : a.length = b.length := by omega
    have h1 := congrArg (List.take a.length) he
    rw [raw_data, hab, raw_data] at h1
    have h2 := congrArg (List.drop a.length) he
    rw [raw_drop, hab, raw_drop] at h2
    refine ⟨h1, congrArg tK h2, ?_, ?_, ?_⟩
    · have := congrArg tP h2
      rwa [tail_tP a6, tail_tP b6] at this
    · have := congrArg tS h2
      rwa [tail_tS a7, tail_tS b7] at this
    · have := congrArg tE h2
      rwa [tail_tE a8, tail_tE b8] at this
  · rintro ⟨rfl, rfl, rfl, rfl, rfl⟩
    rfl
theorem sameB_b (b : Bool) (xs ys : List Nat) (n m : Nat) (hn : xs.length = n) (hm : ys.length = m) (hb : decide (xs = ys) = b) (A B : Option Addr) (c d : Nat) (w : World) (h1 : Sl w w.heap.size A (xs.map byteV)) (h2 : Sl w w.heap.size B (ys.map byteV)) (n1 : n ≤ 1000000) (n2 : m ≤ 1000000) :
    Calls Try.prog 15 #[.slice A n c, .slice B m d] w fun e w' => e = .returned (.bool b) ∧ Below w.heap.size w w' := by
  subst hn hm hb
  exact sameB_any xs ys A B c d w h1 h2 n1 n2
end Go.Proofs.Ytmnfikfncbppfaa
