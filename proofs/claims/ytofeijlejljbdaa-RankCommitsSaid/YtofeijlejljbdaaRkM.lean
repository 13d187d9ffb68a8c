/- What counts among founds, as lists alone. -/
namespace Go.Proofs.Ytofeijlejljbdaa
structure Fd where
  b : Int
  g : Int
  k : Int
  p : Int
  s : Int
  e : Int

def lastS (n : Int) (f : Fd) : Int := if f.k = 3 then max n f.e else n
def lastZ (fs : List Fd) : Int := fs.foldl lastS 0
def newer (a b : Fd) : Bool := if a.e = b.e then decide (b.s < a.s) else decide (b.e < a.e)
def counts (last : Int) (f : Fd) : Bool := (decide (f.k = 1) || decide (f.k = 2)) && decide (f.e ≤ last)
def stepN (last p : Int) (o : Option Fd) (f : Fd) : Option Fd :=
  if counts last f = true ∧ f.p = p then
    match o with
    | none => some f
    | some x => if newer f x = true then some f else some x
  else o
def newestZ (last : Int) (fs : List Fd) (p : Int) : Option Fd := fs.foldl (stepN last p) none
def staleZ (fs : List Fd) : List Fd := fs.filter (fun f => decide (lastZ fs < f.e))
def IsAll (fs L : List Fd) : Prop := L.Pairwise (fun x y => x.p < y.p) ∧ ∀ x, x ∈ L ↔ (newestZ (lastZ fs) fs x.p = some x ∧ x.k = 1)

/-! ### last -/
theorem lastS_ge (n : Int) (f : Fd) : n ≤ lastS n f := by unfold lastS; split <;> omega
theorem lastF_ge : ∀ (fs : List Fd) (n : Int), n ≤ fs.foldl lastS n
  | [], n => Int.le_refl n
  | f :: fs, n => Int.le_trans (lastS_ge n f) (lastF_ge fs _)
theorem lastF_mem : ∀ (fs : List Fd) (n : Int) (f : Fd), f ∈ fs → f.k = 3 → f.e ≤ fs.foldl lastS n
  | f :: fs, n, x, h, hk => by
    rcases List.mem_cons.1 h with rfl | h
    · refine Int.le_trans ?_ (lastF_ge fs _)
      unfold lastS
      rw [if_pos hk]
      omega
    · exact lastF_mem fs _ x h hk
theorem lastF_in : ∀ (fs : List Fd) (n : Int), fs.foldl lastS n = n ∨ ∃ f ∈ fs, f.k = 3 ∧ f.e = fs.foldl lastS n
  | [], n => Or.inl rfl
  | f :: fs, n => by
    rcases lastF_in fs (lastS n f) with h | ⟨x, hx, hk, he⟩
    · rw [List.foldl_cons, h]
      unfold lastS
      split
      · rename_i hk
        rcases Int.le_total f.e n with h1 | h1
        · left; omega
        · right; exact ⟨f, by simp, hk, by omega⟩
      · exact Or.inl rfl
    · right
      exact ⟨x, by simp [hx], hk, he⟩
theorem lastZ_nonneg (fs : List Fd) : 0 ≤ lastZ fs := lastF_ge fs 0
theorem lastZ_mem {fs : List Fd} {f : Fd} (h : f ∈ fs) (hk : f.k = 3) : f.e ≤ lastZ fs := lastF_mem fs 0 f h hk
theorem lastZ_in (fs : List Fd) : lastZ fs = 0 ∨ ∃ f ∈ fs, f.k = 3 ∧ f.e = lastZ fs := lastF_in fs 0
theorem lastZ_congr {fs gs : List Fd} (h : ∀ x, x ∈ fs ↔ x ∈ gs) : lastZ fs = lastZ gs := by
  have key : ∀ a b : List Fd, (∀ x, x ∈ a ↔ x ∈ b) → lastZ a ≤ lastZ b := by
    intro a b hab
    rcases lastZ_in a with e | ⟨f, hf, hk, he⟩
    · rw [e]; exact lastZ_nonneg b
    · rw [← he]; exact lastZ_mem ((hab f).1 hf) hk
  exact Int.le_antisymm (key fs gs h) (key gs fs (fun x => (h x).symm))
theorem lastZ_snoc (fs : List Fd) (x : Fd) : lastZ (fs ++ [x]) = if x.k = 3 then max (lastZ fs) x.e else lastZ fs := by
  unfold lastZ
  rw [List.foldl_append]
  rfl
theorem lastZ_none {fs : List Fd} (h : ∀ x ∈ fs, x.k ≠ 3) : lastZ fs = 0 := by
  rcases lastZ_in fs with e | ⟨f, hf, hk, _⟩
  · exact e
  · exact absurd hk (h f hf)

/-! ### newer -/
theorem newer_false {a b : Fd} (h : newer a b = false) : a.e < b.e ∨ (a.e = b.e ∧ a.s ≤ b.s) := by
  unfold newer at h
  split at h
  · rename_i he
    have := of_decide_eq_false h
    right
    exact ⟨he, by omega⟩
  · have := of_decide_eq_false h
    left
    omega
theorem newer_true {a b : Fd} (h : newer a b = true) : b.e < a.e ∨ (a.e = b.e ∧ b.s < a.s) := by
  unfold newer at h
  split at h
  · rename_i he
    exact Or.inr ⟨he, of_decide_eq_true h⟩
  · exact Or.inl (of_decide_eq_true h)
theorem newer_of {a b : Fd} (h : b.e < a.e ∨ (a.e = b.e ∧ b.s < a.s)) : newer a b = true := by
  unfold newer
  split
  · exact decide_eq_true (by omega)
  · exact decide_eq_true (by omega)
theorem newer_irrefl (a : Fd) : newer a a = false := by
  unfold newer
  simp

/-! ### newest -/
def Cand (last p : Int) (x : Fd) : Prop := counts last x = true ∧ x.p = p
/-- x is the newest one of page p among fs. -/
theorem newestF_spec (last p : Int) : ∀ (fs : List Fd) (o : Option Fd), (∀ x, o = some x → Cand last p x) →
    match fs.foldl (stepN last p) o with
    | none => o = none ∧ ∀ y ∈ fs, ¬ Cand last p y
    | some x => (o = some x ∨ x ∈ fs) ∧ Cand last p x ∧ (∀ y, o = some y → newer y x = false) ∧ ∀ y ∈ fs, Cand last p y → newer y x = false
  | [], o, ho => by
    cases o with
    | none => exact ⟨rfl, by simp⟩
    | some x => exact ⟨Or.inl rfl, ho x rfl, fun y hy => by cases hy; exact newer_irrefl x, by simp⟩
  | f :: fs, o, ho => by
    rw [List.foldl_cons]
    have ho2 : ∀ x, stepN last p o f = some x → Cand last p x := by
      intro x hx
      unfold stepN at hx
      split at hx
      · rename_i hc
        cases o with
        | none => cases hx; exact hc
        | some y =>
          dsimp only at hx
          split at hx
          · cases hx; exact hc
          · cases hx; exact ho _ rfl
      · exact ho x hx
    have ih := newestF_spec last p fs (stepN last p o f) ho2
    generalize fs.foldl (stepN last p) (stepN last p o f) = r at ih ⊢
    cases r with
    | none =>
      obtain ⟨h1, h2⟩ := ih
      have h3 : o = none ∧ ¬ Cand last p f := by
        unfold stepN at h1
        split at h1
        · cases o with
          | none => cases h1
          | some y => dsimp only at h1; split at h1 <;> cases h1
        · rename_i hc
          exact ⟨h1, hc⟩
      refine ⟨h3.1, fun y hy => ?_⟩
      rcases List.mem_cons.1 hy with rfl | hy
      · exact h3.2
      · exact h2 y hy
    | some x =>
      obtain ⟨h1, h2, h3, h4⟩ := ih
      have hmid : (∀ y, o = some y → newer y x = false) ∧ (Cand last p f → newer f x = false) ∧ (stepN last p o f = some x → o = some x ∨ f = x) := by
        unfold stepN at h3 ⊢
        by_cases hc : counts last f = true ∧ f.p = p
        · rw [if_pos hc] at h3 ⊢
          cases o with
          | none =>
            refine ⟨by simp, fun _ => h3 f rfl, fun h => ?_⟩
            cases h
            exact Or.inr rfl
          | some z =>
            dsimp only at h3 ⊢
            by_cases hn : newer f z = true
            · rw [if_pos hn] at h3 ⊢
              have := h3 f rfl
              refine ⟨fun y hy => ?_, fun _ => this, fun h => ?_⟩
              · cases hy
                have a1 := newer_true hn
                have a2 := newer_false this
                apply Bool.eq_false_iff.2
                intro a3
                have a3 := newer_true a3
                omega
              · cases h
                exact Or.inr rfl
            · rw [if_neg hn] at h3 ⊢
              have := h3 z rfl
              refine ⟨fun y hy => ?_, fun _ => ?_, fun h => ?_⟩
              · cases hy
                exact this
              · have a1 := newer_false (Bool.eq_false_iff.2 hn)
                have a2 := newer_false this
                apply Bool.eq_false_iff.2
                intro a3
                have a3 := newer_true a3
                omega
              · exact Or.inl h
        · rw [if_neg hc] at h3 ⊢
          exact ⟨h3, fun h => absurd h hc, fun h => Or.inl h⟩
      refine ⟨?_, h2, hmid.1, fun y hy hcy => ?_⟩
      · rcases h1 with h1 | h1
        · rcases hmid.2.2 h1 with h | h
          · exact Or.inl h
          · exact Or.inr (by simp [h])
        · exact Or.inr (by simp [h1])
      · rcases List.mem_cons.1 hy with rfl | hy
        · exact hmid.2.1 hcy
        · exact h4 y hy hcy
theorem newestZ_some {last p : Int} {fs : List Fd} {x : Fd} (h : newestZ last fs p = some x) : x ∈ fs ∧ counts last x = true ∧ x.p = p ∧ ∀ y ∈ fs, counts last y = true → y.p = p → newer y x = false := by
  have := newestF_spec last p fs none (by simp)
  unfold newestZ at h
  rw [h] at this
  obtain ⟨h1, h2, _, h4⟩ := this
  refine ⟨?_, h2.1, h2.2, fun y hy a b => h4 y hy ⟨a, b⟩⟩
  rcases h1 with h1 | h1
  · cases h1
  · exact h1
theorem newestZ_none {last p : Int} {fs : List Fd} (h : newestZ last fs p = none) : ∀ y ∈ fs, ¬ (counts last y = true ∧ y.p = p) := by
  have := newestF_spec last p fs none (by simp)
  unfold newestZ at h
  rw [h] at this
  exact this.2
theorem newestZ_snoc (last p : Int) (fs : List Fd) (x : Fd) : newestZ last (fs ++ [x]) p = stepN last p (newestZ last fs p) x := by
  unfold newestZ
  rw [List.foldl_append]
  rfl
theorem newestZ_congr {last : Int} {fs gs : List Fd} (h : ∀ x, x ∈ fs ↔ x ∈ gs) (hd : ∀ x ∈ fs, ∀ y ∈ fs, x.e = y.e → x.s = y.s → x = y) (p : Int) : newestZ last fs p = newestZ last gs p := by
  cases ha : newestZ last fs p with
  | none =>
    cases hb : newestZ last gs p with
    | none => rfl
    | some y =>
      obtain ⟨h1, h2, h3, _⟩ := newestZ_some hb
      exact absurd ⟨h2, h3⟩ (newestZ_none ha y ((h y).2 h1))
  | some x =>
    obtain ⟨h1, h2, h3, h4⟩ := newestZ_some ha
    cases hb : newestZ last gs p with
    | none => exact absurd ⟨h2, h3⟩ (newestZ_none hb x ((h x).1 h1))
    | some y =>
      obtain ⟨k1, k2, k3, k4⟩ := newestZ_some hb
      have a1 := newer_false (h4 y ((h y).2 k1) k2 k3)
      have a2 := newer_false (k4 x ((h x).1 h1) h2 h3)
      rw [hd x h1 y ((h y).2 k1) (by omega) (by omega)]

/-! ### all -/
theorem sorted_unique : ∀ (a b : List Fd), a.Pairwise (fun x y => x.p < y.p) → b.Pairwise (fun x y => x.p < y.p) → (∀ x, x ∈ a ↔ x ∈ b) → a = b
  | [], [], _, _, _ => rfl
  | [], y :: b, _, _, h => by have := (h y).2 (by simp); simp at this
  | x :: a, [], _, _, h => by have := (h x).1 (by simp); simp at this
  | x :: a, y :: b, ha, hb, h => by
    obtain ⟨ha1, ha2⟩ := List.pairwise_cons.1 ha
    obtain ⟨hb1, hb2⟩ := List.pairwise_cons.1 hb
    have exy : x = y := by
      rcases List.mem_cons.1 ((h x).1 (by simp)) with e | e
      · exact e
      · rcases List.mem_cons.1 ((h y).2 (by simp)) with e2 | e2
        · exact e2.symm
        · have := hb1 x e
          have := ha1 y e2
          omega
    subst exy
    congr 1
    refine sorted_unique a b ha2 hb2 (fun z => ?_)
    constructor
    · intro hz
      rcases List.mem_cons.1 ((h z).1 (by simp [hz])) with e | e
      · subst e
        have := ha1 z hz
        omega
      · exact e
    · intro hz
      rcases List.mem_cons.1 ((h z).2 (by simp [hz])) with e | e
      · subst e
        have := hb1 z hz
        omega
      · exact e
theorem IsAll.unique {fs a b : List Fd} (ha : IsAll fs a) (hb : IsAll fs b) : a = b :=
  sorted_unique a b ha.1 hb.1 (fun x => (ha.2 x).trans (hb.2 x).symm)
theorem IsAll.congr {fs gs a b : List Fd} (ha : IsAll fs a) (hb : IsAll gs b) (h : ∀ p, newestZ (lastZ fs) fs p = newestZ (lastZ gs) gs p) : a = b :=
  sorted_unique a b ha.1 hb.1 (fun x => by rw [ha.2 x, hb.2 x, h x.p])
theorem IsAll.mem {fs a : List Fd} (ha : IsAll fs a) {x : Fd} (hx : x ∈ a) : x ∈ fs ∧ x.k = 1 ∧ x.e ≤ lastZ fs := by
  obtain ⟨h1, h2⟩ := (ha.2 x).1 hx
  obtain ⟨h3, h4, _, _⟩ := newestZ_some h1
  refine ⟨h3, h2, ?_⟩
  unfold counts at h4
  simp only [Bool.and_eq_true, decide_eq_true_eq] at h4
  exact h4.2

/-! ### the laws -/
theorem order_all {fs gs a b : List Fd} (ha : IsAll fs a) (hb : IsAll gs b) (h : ∀ x, x ∈ fs ↔ x ∈ gs) (hd : ∀ x ∈ fs, ∀ y ∈ fs, x.e = y.e → x.s = y.s → x = y) : a = b :=
  ha.congr hb (fun p => by rw [← lastZ_congr h]; exact newestZ_congr h hd p)
theorem copies_stale {fs a b : List Fd} {x : Fd} (ha : IsAll fs a) (hb : IsAll (fs ++ [x]) b) (hk : x.k ≠ 3) (he : lastZ fs < x.e) : a = b := by
  refine ha.congr hb (fun p => ?_)
  have e : lastZ (fs ++ [x]) = lastZ fs := by rw [lastZ_snoc, if_neg hk]
  rw [e, newestZ_snoc]
  unfold stepN
  rw [if_neg]
  intro h
  have := h.1
  unfold counts at this
  simp only [Bool.and_eq_true, decide_eq_true_eq] at this
  omega
theorem pairwise_set (x : Fd) : ∀ (a : List Fd) (k : Nat), (h : k < a.length) → x.p = (a[k]).p → a.Pairwise (fun x y => x.p < y.p) → (a.set k x).Pairwise (fun x y => x.p < y.p)
  | y :: a, 0, _, e, hp => by
    obtain ⟨h1, h2⟩ := List.pairwise_cons.1 hp
    refine List.pairwise_cons.2 ⟨fun z hz => ?_, h2⟩
    have := h1 z hz
    simp at e
    omega
  | y :: a, k + 1, h, e, hp => by
    obtain ⟨h1, h2⟩ := List.pairwise_cons.1 hp
    have hk : k < a.length := by simpa using h
    refine List.pairwise_cons.2 ⟨fun z hz => ?_, pairwise_set x a k hk (by simpa using e) h2⟩
    rcases List.mem_or_eq_of_mem_set hz with hz | rfl
    · exact h1 z hz
    · have := h1 a[k] (List.getElem_mem hk)
      simp at e
      omega
theorem mem_set_sorted {a : List Fd} (hp : a.Pairwise (fun x y => x.p < y.p)) {k : Nat} (hk : k < a.length) {x : Fd} (e : x.p = (a[k]).p) (y : Fd) : y ∈ a.set k x ↔ (y = x ∨ (y ∈ a ∧ y.p ≠ x.p)) := by
  have hinj : ∀ i j : Nat, (hi : i < a.length) → (hj : j < a.length) → (a[i]).p = (a[j]).p → i = j := by
    intro i j hi hj h
    rcases Nat.lt_trichotomy i j with h1 | h1 | h1
    · have := List.pairwise_iff_getElem.1 hp i j hi hj h1
      omega
    · exact h1
    · have := List.pairwise_iff_getElem.1 hp j i hj hi h1
      omega
  constructor
  · intro h
    obtain ⟨i, hi, rfl⟩ := List.getElem_of_mem h
    rw [List.getElem_set]
    by_cases hik : k = i
    · left; rw [if_pos hik]
    · right
      rw [if_neg hik]
      refine ⟨List.getElem_mem _, fun h2 => hik ?_⟩
      exact (hinj i k (by simpa using hi) hk (h2.trans e)).symm
  · rintro (rfl | ⟨h, hne⟩)
    · exact List.mem_iff_getElem.2 ⟨k, by simpa using hk, by simp⟩
    · obtain ⟨i, hi, rfl⟩ := List.getElem_of_mem h
      have hik : k ≠ i := by
        intro h2
        subst h2
        exact hne e.symm
      refine List.mem_iff_getElem.2 ⟨i, by simpa using hi, ?_⟩
      rw [List.getElem_set, if_neg hik]
theorem copies_all {fs a b : List Fd} {x : Fd} {k : Nat} (ha : IsAll fs a) (hb : IsAll (fs ++ [x]) b) (hk : k < a.length) (e1 : x.p = (a[k]).p) (e2 : x.k = 1) (e3 : x.e = (a[k]).e) (e4 : ∀ y ∈ fs, y.s < x.s) : b = a.set k x := by
  obtain ⟨hm, hmk, hme⟩ := ha.mem (List.getElem_mem hk)
  have hnew := ((ha.2 _).1 (List.getElem_mem hk)).1
  have el : lastZ (fs ++ [x]) = lastZ fs := by rw [lastZ_snoc, if_neg (by omega)]
  have hc : counts (lastZ fs) x = true := by
    unfold counts
    simp only [Bool.and_eq_true, Bool.or_eq_true, decide_eq_true_eq]
    omega
  refine sorted_unique _ _ hb.1 (pairwise_set x a k hk e1 ha.1) (fun y => ?_)
  rw [hb.2 y, mem_set_sorted ha.1 hk e1, ha.2 y, el, newestZ_snoc]
  unfold stepN
  by_cases hp : x.p = y.p
  · rw [if_pos ⟨hc, hp⟩, ← hp, e1, hnew]
    dsimp only
    rw [if_pos (newer_of (Or.inr ⟨e3, e4 _ hm⟩))]
    constructor
    · rintro ⟨h, _⟩
      cases h
      exact Or.inl rfl
    · rintro (rfl | ⟨_, h⟩)
      · exact ⟨rfl, e2⟩
      · omega
  · rw [if_neg (fun h => hp h.2)]
    constructor
    · rintro h
      exact Or.inr ⟨h, fun h2 => hp h2.symm⟩
    · rintro (rfl | ⟨h, _⟩)
      · exact absurd rfl hp
      · exact h
theorem trims_all {fs a b : List Fd} {x : Fd} (ha : IsAll fs a) (hb : IsAll (fs ++ [x]) b) (e2 : x.k = 2) (e3 : x.e = lastZ fs) (e4 : ∀ y ∈ fs, y.s < x.s) : b = a.filter (fun y => decide (y.p ≠ x.p)) := by
  have el : lastZ (fs ++ [x]) = lastZ fs := by rw [lastZ_snoc, if_neg (by omega)]
  have hc : counts (lastZ fs) x = true := by
    unfold counts
    simp only [Bool.and_eq_true, Bool.or_eq_true, decide_eq_true_eq]
    omega
  refine sorted_unique _ _ hb.1 (ha.1.filter _) (fun y => ?_)
  rw [hb.2 y, List.mem_filter, ha.2 y, el, newestZ_snoc]
  unfold stepN
  by_cases hp : x.p = y.p
  · rw [if_pos ⟨hc, hp⟩]
    have hs : (match newestZ (lastZ fs) fs y.p with | none => some x | some z => if newer x z = true then some x else some z) = some x := by
      cases hz : newestZ (lastZ fs) fs y.p with
      | none => rfl
      | some z =>
        obtain ⟨h1, h2, _, _⟩ := newestZ_some hz
        dsimp only
        rw [if_pos]
        unfold counts at h2
        simp only [Bool.and_eq_true, decide_eq_true_eq] at h2
        have := e4 z h1
        exact newer_of (by omega)
    rw [hs]
    constructor
    · rintro ⟨h, h2⟩
      cases h
      omega
    · rintro ⟨_, h⟩
      have := of_decide_eq_true h
      omega
  · rw [if_neg (fun h => hp h.2)]
    constructor
    · intro h
      exact ⟨h, decide_eq_true (fun h2 => hp h2.symm)⟩
    · exact fun h => h.1
theorem none_all {fs a : List Fd} (ha : IsAll fs a) (h : ∀ x ∈ fs, lastZ fs < x.e) : a = [] := by
  cases a with
  | nil => rfl
  | cons x a =>
    obtain ⟨h1, _, h3⟩ := ha.mem (List.mem_cons_self)
    have := h x h1
    omega
/-- The last one of ns that has page p, if there is one. -/
def lastOf (p : Int) (o : Option Fd) (f : Fd) : Option Fd := if f.p = p then some f else o
theorem commits_newest (last e p : Int) (he : e = last + 1) : ∀ (ns : List Fd) (o : Option Fd) (m : Int), (∀ x, o = some x → x.e ≤ last ∨ (x.e = e ∧ x.s < m)) → (∀ i (h : i < ns.length), (ns[i]).e = e ∧ (ns[i]).s = m + i ∧ ((ns[i]).k = 1 ∨ (ns[i]).k = 2)) →
    ns.foldl (stepN e p) o = ns.foldl (lastOf p) o
  | [], _, _, _, _ => rfl
  | f :: ns, o, m, ho, hn => by
    have h0 := hn 0 (by simp)
    simp at h0
    have hst : stepN e p o f = lastOf p o f := by
      unfold stepN lastOf
      have hc : counts e f = true := by
        unfold counts
        simp only [Bool.and_eq_true, Bool.or_eq_true, decide_eq_true_eq]
        omega
      by_cases hp : f.p = p
      · rw [if_pos ⟨hc, hp⟩, if_pos hp]
        cases o with
        | none => rfl
        | some x =>
          dsimp only
          rw [if_pos]
          have := ho x rfl
          exact newer_of (by omega)
      · rw [if_neg (fun h => hp h.2), if_neg hp]
    rw [List.foldl_cons, List.foldl_cons, hst]
    refine commits_newest last e p he ns _ (m + 1) ?_ ?_
    · intro x hx
      unfold lastOf at hx
      split at hx
      · cases hx
        right
        omega
      · rcases ho x hx with h | h
        · exact Or.inl h
        · right
          omega
    · intro i hi
      have := hn (i + 1) (by simpa using hi)
      simp at this
      omega
theorem newestZ_mono {last e p : Int} : ∀ (fs : List Fd) (o : Option Fd), (∀ x ∈ fs, x.e ≤ last) → last ≤ e → fs.foldl (stepN e p) o = fs.foldl (stepN last p) o
  | [], _, _, _ => rfl
  | f :: fs, o, h, hl => by
    have hf := h f (by simp)
    have : stepN e p o f = stepN last p o f := by
      unfold stepN counts
      rw [decide_eq_true hf, decide_eq_true (Int.le_trans hf hl)]
    rw [List.foldl_cons, List.foldl_cons, this]
    exact newestZ_mono fs _ (fun x hx => h x (by simp [hx])) hl
end Go.Proofs.Ytofeijlejljbdaa
