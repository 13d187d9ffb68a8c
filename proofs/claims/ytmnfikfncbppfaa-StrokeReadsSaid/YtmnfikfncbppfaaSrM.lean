/- Sheets in bytes: what a strict reading, and a lenient one laid again, make of them. -/
import Derived.Test.YtmnfikfncbppfaaFlC
namespace Go.Proofs.Ytmnfikfncbppfaa
set_option linter.unusedSimpArgs false
set_option linter.unusedVariables false

abbrev Pt := Nat × Nat × Nat × Nat
abbrev St := Nat × List Pt
def ptB (p : Pt) : List Nat := [p.1, p.2.1, p.2.2.1, p.2.2.2]
def ptsB (ps : List Pt) : List Nat := ps.flatMap ptB
def stB (s : St) : List Nat := s.1 :: s.2.length :: ptsB s.2
def stsB (ss : List St) : List Nat := ss.flatMap stB
def layB (ss : List St) : List Nat := ss.length :: stsB ss
def mayT (s : St) : Bool := decide (s.1 / 16 ≤ 7) && decide (1 ≤ s.1 % 16) && decide (s.1 % 16 ≤ 9) && decide (1 ≤ s.2.length) && decide (s.2.length ≤ 10)
def mayS (ss : List St) : Bool := decide (ss.length ≤ 6) && ss.all mayT
def rdP : Nat → List Nat → List Pt → Option (List Pt × List Nat)
  | 0, b, ps => some (ps, b)
  | n + 1, a :: c :: d :: e :: b, ps => rdP n b (ps ++ [(a, c, d, e)])
  | _ + 1, _, _ => none
def rdS : Nat → List Nat → List St → Option (List St × List Nat)
  | 0, b, ss => some (ss, b)
  | n + 1, h :: k :: b, ss => (rdP k b []).bind fun r => rdS n r.2 (ss ++ [(h, r.1)])
  | _ + 1, _, _ => none
def fin (r : Option (List St × List Nat)) : Option (List St) := r.bind fun r => if r.2 = [] ∧ mayS r.1 = true then some r.1 else none
def rd : List Nat → Option (List St)
  | [] => none
  | n :: b => fin (rdS n b [])
def lrP : Nat → List Nat → List Pt → List Pt × List Nat
  | n + 1, a :: c :: d :: e :: b, ps => lrP n b (ps ++ [(a, c, d, e)])
  | _, b, ps => (ps, b)
def lrS : Nat → List Nat → List St → List St
  | n + 1, h :: k :: b, ss => lrS n (lrP k b []).2 (ss ++ [(h, (lrP k b []).1)])
  | _, _, ss => ss
def rref (b : List Nat) : Option (List St) := if mayS (lrS 7 (b.drop 1) []) = true ∧ layB (lrS 7 (b.drop 1) []) = b then some (lrS 7 (b.drop 1) []) else none

theorem ptsB_cons (p : Pt) (ps : List Pt) : ptsB (p :: ps) = p.1 :: p.2.1 :: p.2.2.1 :: p.2.2.2 :: ptsB ps := rfl
theorem stsB_cons (s : St) (ss : List St) : stsB (s :: ss) = s.1 :: s.2.length :: (ptsB s.2 ++ stsB ss) := rfl
theorem rdP_some : ∀ (n : Nat) (b : List Nat) (ps qs : List Pt) (b' : List Nat), rdP n b ps = some (qs, b') → ∃ rs : List Pt, rs.length = n ∧ qs = ps ++ rs ∧ b = ptsB rs ++ b'
  | 0, b, ps, qs, b', h => by
    simp only [rdP, Option.some.injEq, Prod.mk.injEq] at h
    obtain ⟨rfl, rfl⟩ := h
    exact ⟨[], rfl, by simp, rfl⟩
  | n + 1, [], _, _, _, h => by simp [rdP] at h
  | n + 1, [_], _, _, _, h => by simp [rdP] at h
  | n + 1, [_, _], _, _, _, h => by simp [rdP] at h
  | n + 1, [_, _, _], _, _, _, h => by simp [rdP] at h
  | n + 1, a :: c :: d :: e :: b, ps, qs, b', h => by
    simp only [rdP] at h
    obtain ⟨rs, h1, h2, h3⟩ := rdP_some n b _ qs b' h
    refine ⟨(a, c, d, e) :: rs, by simp [h1], by simp [h2], by rw [ptsB_cons, h3]; rfl⟩
theorem rdS_some : ∀ (n : Nat) (b : List Nat) (ss ts : List St) (b' : List Nat), rdS n b ss = some (ts, b') → ∃ us : List St, us.length = n ∧ ts = ss ++ us ∧ b = stsB us ++ b'
  | 0, b, ss, ts, b', h => by
    simp only [rdS, Option.some.injEq, Prod.mk.injEq] at h
    obtain ⟨rfl, rfl⟩ := h
    exact ⟨[], rfl, by simp, rfl⟩
  | n + 1, [], _, _, _, h => by simp [rdS] at h
  | n + 1, [_], _, _, _, h => by simp [rdS] at h
  | n + 1, x :: k :: b, ss, ts, b', h => by
    simp only [rdS] at h
    cases hp : rdP k b [] with
    | none => rw [hp] at h; simp at h
    | some r =>
      obtain ⟨ps, b2⟩ := r
      rw [hp] at h
      simp only [Option.bind_some] at h
      obtain ⟨us, h1, h2, h3⟩ := rdS_some n b2 _ ts b' h
      obtain ⟨rs, g1, g2, g3⟩ := rdP_some k b [] ps b2 hp
      simp only [List.nil_append] at g2
      subst g2
      refine ⟨(x, ps) :: us, by simp [h1], by simp [h2], ?_⟩
      rw [stsB_cons, g3, h3, g1]
      simp
theorem rdP_lay : ∀ (rs : List Pt) (b : List Nat) (ps : List Pt), rdP rs.length (ptsB rs ++ b) ps = some (ps ++ rs, b)
  | [], b, ps => by simp [rdP, ptsB]
  | r :: rs, b, ps => by
    rw [ptsB_cons]
    simp only [List.length_cons, List.cons_append, rdP]
    rw [rdP_lay rs]
    simp
theorem rdS_lay : ∀ (us : List St) (b : List Nat) (ss : List St), rdS us.length (stsB us ++ b) ss = some (ss ++ us, b)
  | [], b, ps => by simp [rdS, stsB]
  | u :: us, b, ss => by
    rw [stsB_cons]
    simp only [List.length_cons, List.cons_append, rdS, List.append_assoc]
    rw [rdP_lay]
    simp only [Option.bind_some, List.nil_append]
    rw [rdS_lay us]
    simp
theorem lrP_lay : ∀ (rs : List Pt) (b : List Nat) (ps : List Pt), lrP rs.length (ptsB rs ++ b) ps = (ps ++ rs, b)
  | [], b, ps => by cases b <;> simp [lrP, ptsB]
  | r :: rs, b, ps => by
    rw [ptsB_cons]
    simp only [List.length_cons, List.cons_append, lrP]
    rw [lrP_lay rs]
    simp
theorem lrS_lay : ∀ (us : List St) (m : Nat) (ss : List St), us.length ≤ m → lrS m (stsB us) ss = ss ++ us
  | [], m, ss, _ => by cases m <;> simp [lrS, stsB]
  | u :: us, 0, ss, h => by simp at h
  | u :: us, m + 1, ss, h => by
    rw [stsB_cons]
    simp only [lrS]
    rw [lrP_lay]
    rw [List.nil_append, lrS_lay us m _ (by simpa using h)]
    simp
theorem mayS_len {ss : List St} (h : mayS ss = true) : ss.length ≤ 6 := by
  unfold mayS at h
  simp at h
  exact h.1
theorem fin_some {r : Option (List St × List Nat)} {ss : List St} (h : fin r = some ss) : r = some (ss, []) ∧ mayS ss = true := by
  unfold fin at h
  cases r with
  | none => simp at h
  | some r =>
    obtain ⟨a, b⟩ := r
    simp only [Option.bind_some] at h
    by_cases hc : b = [] ∧ mayS a = true
    · rw [if_pos hc] at h
      obtain ⟨rfl, hc2⟩ := hc
      cases h
      exact ⟨rfl, hc2⟩
    · rw [if_neg hc] at h
      cases h
theorem rd_some {b : List Nat} {ss : List St} (h : rd b = some ss) : b = layB ss ∧ mayS ss = true := by
  cases b with
  | nil => simp [rd] at h
  | cons n b =>
    simp only [rd] at h
    obtain ⟨h1, h2⟩ := fin_some h
    obtain ⟨us, g1, g2, g3⟩ := rdS_some n b [] ss [] h1
    simp only [List.nil_append] at g2
    subst g2
    exact ⟨by unfold layB; rw [g1, g3, List.append_nil], h2⟩
theorem rd_lay {ss : List St} (h : mayS ss = true) : rd (layB ss) = some ss := by
  have := rdS_lay ss [] []
  rw [List.append_nil, List.nil_append] at this
  unfold layB
  simp only [rd]
  rw [this]
  unfold fin
  simp [h]
theorem rref_eq (b : List Nat) : rref b = rd b := by
  cases hr : rd b with
  | some ss =>
    obtain ⟨rfl, hm⟩ := rd_some hr
    have e : lrS 7 ((layB ss).drop 1) [] = ss := by
      have := lrS_lay ss 7 [] (by have := mayS_len hm; omega)
      rw [List.nil_append] at this
      exact this
    unfold rref
    rw [e, if_pos ⟨hm, rfl⟩]
  | none =>
    unfold rref
    by_cases hc : mayS (lrS 7 (b.drop 1) []) = true ∧ layB (lrS 7 (b.drop 1) []) = b
    · have := rd_lay hc.1
      rw [hc.2, hr] at this
      cases this
    · rw [if_neg hc]
end Go.Proofs.Ytmnfikfncbppfaa
