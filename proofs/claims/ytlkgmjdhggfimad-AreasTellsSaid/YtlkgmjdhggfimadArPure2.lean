/- What is asked of areas, as plain data: wrong ones, mapped, unmapped and protected ones, and room; and what is true of them. -/
import Derived.Test.YtlkgmjdhggfimadArPure
namespace Go.Proofs.Ytlkgmjdhggfimad

/-- What is wrong with areas, from number i on, behind p. -/
def wrGo : Option Ar → List Ar → Nat → Int × Int
  | _, [], _ => (0, 0)
  | p, a :: l, i =>
    if arW a ≠ 0 then (arW a, i)
    else match p with
      | some b => if a.fr < b.to ∨ goB a b = true then (2, i) else wrGo (some a) l (i + 1)
      | none => wrGo (some a) l (i + 1)
def wrL (l : List Ar) : Int × Int := if 16 < l.length then (4, 0) else wrGo none l 0
theorem wrGo_zero : ∀ {l : List Ar} {p : Option Ar} {i : Nat}, (wrGo p l i).1 = 0 ↔ CanP p l
  | [], p, i => by simp [wrGo, CanP]
  | a :: l, p, i => by
    unfold wrGo CanP
    by_cases h : arW a = 0
    · rw [if_neg (fun h' => h' h)]
      cases p with
      | none => simp [wrGo_zero (l := l), arW_zero.1 h]
      | some b =>
        simp only
        by_cases h2 : a.fr < b.to ∨ goB a b = true
        · rw [if_pos h2]
          simp only [Option.some.injEq, forall_eq']
          constructor
          · intro h3; exact absurd h3 (by decide)
          · rintro ⟨_, ⟨h3, h4⟩, _⟩
            rcases h2 with h2 | h2
            · omega
            · rw [h4] at h2; cases h2
        · rw [if_neg h2, wrGo_zero]
          simp only [Option.some.injEq, forall_eq', arW_zero.1 h, true_and]
          constructor
          · intro h3
            exact ⟨⟨by omega, by cases hq : goB a b with | false => rfl | true => exact absurd (.inr hq) h2⟩, h3⟩
          · exact fun h3 => h3.2
    · rw [if_pos h]
      constructor
      · intro h1; exact absurd h1 h
      · intro h1; exact absurd (arW_zero.2 h1.1) h
theorem wrL_zero {l : List Ar} : (wrL l).1 = 0 ↔ l.length ≤ 16 ∧ CanP none l := by
  unfold wrL
  by_cases h : 16 < l.length
  · rw [if_pos h]
    constructor
    · intro h1; exact absurd h1 (by decide)
    · intro h1; omega
  · rw [if_neg h, wrGo_zero]
    exact ⟨fun h1 => ⟨by omega, h1⟩, fun h1 => h1.2⟩

/-- Pages with an area more. -/
def mapF (l : List Ar) (a : Ar) : Nat → On := fun k => if inB a k = true then oneOf a k else onAt l k
def within (s n : Int) (k : Nat) : Bool := decide (s ≤ (k : Int)) && decide ((k : Int) < s + n)
theorem within_iff {s n : Int} {k : Nat} : within s n k = true ↔ s ≤ (k : Int) ∧ (k : Int) < s + n := by simp [within]
theorem within_no {s n : Int} {k : Nat} (h : ¬ (s ≤ (k : Int) ∧ (k : Int) < s + n)) : within s n k = false := by
  cases hb : within s n k with
  | false => rfl
  | true => exact absurd (within_iff.1 hb) h
def unF (f : Nat → On) (s n : Int) : Nat → On := fun k => if within s n k = true then on0 else f k
def prF (f : Nat → On) (s n : Int) (r w : Bool) : Nat → On := fun k => if within s n k = true then { f k with rd := r, wr := w } else f k

def fewL (f : Nat → On) : List Ar × Int := if 16 < (joinL f).length then ([], 4) else (joinL f, 0)
def spanB (s n : Int) : Bool := decide (0 ≤ s) && decide (1 ≤ n) && decide (n ≤ 64 - s)
theorem spanB_iff {s n : Int} : spanB s n = true ↔ 0 ≤ s ∧ 1 ≤ n ∧ n ≤ 64 - s := by simp [spanB, and_assoc]
def hitB (l : List Ar) (s n : Int) : Bool := (List.range 64).any fun k => within s n k && (onAt l k).is
def gapB (l : List Ar) (s n : Int) : Bool := (List.range 64).any fun k => within s n k && !(onAt l k).is

def mapA (l : List Ar) (a : Ar) : List Ar × Int := if (wrL l).1 ≠ 0 then ([], (wrL l).1) else if arW a ≠ 0 then ([], arW a) else if hitB l a.fr (a.to - a.fr) = true then ([], 6) else fewL (mapF l a)
def unA (l : List Ar) (s n : Int) : List Ar × Int := if (wrL l).1 ≠ 0 then ([], (wrL l).1) else if spanB s n = false then ([], 3) else fewL (unF (onAt l) s n)
def prA (l : List Ar) (s n : Int) (r w : Bool) : List Ar × Int := if (wrL l).1 ≠ 0 then ([], (wrL l).1) else if spanB s n = false then ([], 3) else if gapB l s n = true then ([], 5) else fewL (prF (onAt l) s n r w)

theorem hitB_iff {l : List Ar} {s n : Int} : hitB l s n = true ↔ ∃ k : Nat, k < 64 ∧ (s ≤ (k : Int) ∧ (k : Int) < s + n) ∧ (onAt l k).is = true := by
  simp [hitB, within]
theorem hitB_no {l : List Ar} {s n : Int} : hitB l s n = false ↔ ∀ k : Nat, k < 64 → (s ≤ (k : Int) ∧ (k : Int) < s + n) → (onAt l k).is = false := by
  simp only [hitB, List.any_eq_false, List.mem_range, Bool.and_eq_true, within_iff, not_and, Bool.not_eq_true]
theorem gapB_iff {l : List Ar} {s n : Int} : gapB l s n = true ↔ ∃ k : Nat, k < 64 ∧ (s ≤ (k : Int) ∧ (k : Int) < s + n) ∧ (onAt l k).is = false := by
  simp [gapB, within]
theorem gapB_no {l : List Ar} {s n : Int} : gapB l s n = false ↔ ∀ k : Nat, k < 64 → (s ≤ (k : Int) ∧ (k : Int) < s + n) → (onAt l k).is = true := by
  simp only [gapB, List.any_eq_false, List.mem_range, Bool.and_eq_true, within_iff, not_and]
  constructor
  · intro h k hk h1
    have := h k hk h1
    simpa using this
  · intro h k hk h1
    have := h k hk h1
    simpa using this

theorem mapF_good {l : List Ar} {a : Ar} (hl : CanP none l) (ha : ArOk a) : Good (mapF l a) := fun k hk => by
  unfold mapF
  by_cases h : inB a k = true
  · rw [if_pos h]
    exact ⟨fun h1 => (by cases h1), fun _ => oneOf_ok ha h⟩
  · rw [if_neg h]
    exact hl.good k hk
theorem unF_good {f : Nat → On} (hf : Good f) (s n : Int) : Good (unF f s n) := fun k hk => by
  unfold unF
  by_cases h : within s n k = true
  · rw [if_pos h]
    exact ⟨fun _ => rfl, fun h1 => by cases h1⟩
  · rw [if_neg h]
    exact hf k hk
theorem prF_good {f : Nat → On} (hf : Good f) (s n : Int) (r w : Bool) (hs : ∀ k : Nat, k < 64 → (s ≤ (k : Int) ∧ (k : Int) < s + n) → (f k).is = true) : Good (prF f s n r w) := fun k hk => by
  unfold prF
  by_cases h : within s n k = true
  · rw [if_pos h]
    have h1 := hs k hk (within_iff.1 h)
    have h2 := (hf k hk).2 h1
    refine ⟨fun h3 => (by simp only at h3; rw [h1] at h3; cases h3), fun _ => ?_⟩
    unfold arOf at h2 ⊢
    rw [if_pos h1] at h2
    rw [if_pos h1]
    exact h2
  · rw [if_neg h]
    exact hf k hk

/-- What three errors are not. -/
theorem fewL_ok {f : Nat → On} (h : (fewL f).2 = 0) : fewL f = (joinL f, 0) ∧ (joinL f).length ≤ 16 := by
  unfold fewL at h ⊢
  by_cases h1 : 16 < (joinL f).length
  · rw [if_pos h1] at h
    exact absurd h (by decide)
  · rw [if_neg h1]
    exact ⟨rfl, by omega⟩
theorem fewL_of {f : Nat → On} (h : (joinL f).length ≤ 16) : fewL f = (joinL f, 0) := by
  unfold fewL
  rw [if_neg (by omega)]
theorem fewL_err {f : Nat → On} (h : (fewL f).2 ≠ 0) : fewL f = ([], 4) := by
  unfold fewL at h ⊢
  by_cases h1 : 16 < (joinL f).length
  · rw [if_pos h1]
  · rw [if_neg h1] at h
    exact absurd rfl h
theorem wr_of {f : Nat → On} (hg : Good f) (h : (joinL f).length ≤ 16) : (wrL (joinL f)).1 = 0 := wrL_zero.2 ⟨h, joinL_can hg⟩

theorem mapA_ok {l : List Ar} {a : Ar} (h : (mapA l a).2 = 0) : (wrL l).1 = 0 ∧ arW a = 0 ∧ hitB l a.fr (a.to - a.fr) = false ∧ (joinL (mapF l a)).length ≤ 16 ∧ (mapA l a).1 = joinL (mapF l a) := by
  unfold mapA at h ⊢
  by_cases h1 : (wrL l).1 = 0
  · rw [if_neg (fun h' => h' h1)] at h ⊢
    by_cases h2 : arW a = 0
    · rw [if_neg (fun h' => h' h2)] at h ⊢
      cases h3 : hitB l a.fr (a.to - a.fr) with
      | true => rw [h3, if_pos rfl] at h; exact absurd h (by decide)
      | false =>
        rw [h3, if_neg (by decide)] at h
        rw [if_neg (by decide)]
        obtain ⟨h4, h5⟩ := fewL_ok h
        exact ⟨h1, h2, rfl, h5, by rw [h4]⟩
    · rw [if_pos h2] at h; exact absurd h h2
  · rw [if_pos h1] at h; exact absurd h h1
theorem mapA_err {l : List Ar} {a : Ar} (h : (mapA l a).2 ≠ 0) : (mapA l a).1 = [] := by
  unfold mapA at h ⊢
  split
  · rfl
  · rename_i h1
    rw [if_neg h1] at h
    split
    · rfl
    · rename_i h2
      rw [if_neg h2] at h
      split
      · rfl
      · rename_i h3
        rw [if_neg h3] at h
        rw [fewL_err h]
theorem unA_ok {l : List Ar} {s n : Int} (h : (unA l s n).2 = 0) : (wrL l).1 = 0 ∧ spanB s n = true ∧ (joinL (unF (onAt l) s n)).length ≤ 16 ∧ (unA l s n).1 = joinL (unF (onAt l) s n) := by
  unfold unA at h ⊢
  by_cases h1 : (wrL l).1 = 0
  · rw [if_neg (fun h' => h' h1)] at h ⊢
    cases h2 : spanB s n with
    | false => rw [h2, if_pos rfl] at h; exact absurd h (by decide)
    | true =>
      rw [h2, if_neg (by decide)] at h
      rw [if_neg (by decide)]
      obtain ⟨h4, h5⟩ := fewL_ok h
      exact ⟨h1, rfl, h5, by rw [h4]⟩
  · rw [if_pos h1] at h; exact absurd h h1
theorem unA_of {l : List Ar} {s n : Int} (h1 : (wrL l).1 = 0) (h2 : spanB s n = true) : unA l s n = fewL (unF (onAt l) s n) := by
  unfold unA
  rw [if_neg (fun h' => h' h1), h2, if_neg (by decide)]
theorem prA_ok {l : List Ar} {s n : Int} {r w : Bool} (h : (prA l s n r w).2 = 0) : (wrL l).1 = 0 ∧ spanB s n = true ∧ gapB l s n = false ∧ (joinL (prF (onAt l) s n r w)).length ≤ 16 ∧ (prA l s n r w).1 = joinL (prF (onAt l) s n r w) := by
  unfold prA at h ⊢
  by_cases h1 : (wrL l).1 = 0
  · rw [if_neg (fun h' => h' h1)] at h ⊢
    cases h2 : spanB s n with
    | false => rw [h2, if_pos rfl] at h; exact absurd h (by decide)
    | true =>
      rw [h2, if_neg (by decide)] at h
      rw [if_neg (by decide)]
      cases h3 : gapB l s n with
      | true => rw [h3, if_pos rfl] at h; exact absurd h (by decide)
      | false =>
        rw [h3, if_neg (by decide)] at h
        rw [if_neg (by decide)]
        obtain ⟨h4, h5⟩ := fewL_ok h
        exact ⟨h1, rfl, rfl, h5, by rw [h4]⟩
  · rw [if_pos h1] at h; exact absurd h h1
theorem prA_of {l : List Ar} {s n : Int} {r w : Bool} (h1 : (wrL l).1 = 0) (h2 : spanB s n = true) (h3 : gapB l s n = false) : prA l s n r w = fewL (prF (onAt l) s n r w) := by
  unfold prA
  rw [if_neg (fun h' => h' h1), h2, if_neg (by decide), h3, if_neg (by decide)]

/-- Mapped, and unmapped. -/
theorem back_law {l : List Ar} {a : Ar} (h : (mapA l a).2 = 0) : (wrL (mapA l a).1).1 = 0 ∧ unA (mapA l a).1 a.fr (a.to - a.fr) = (l, 0) := by
  obtain ⟨h1, h2, h3, h4, h5⟩ := mapA_ok h
  obtain ⟨w1, w2⟩ := wrL_zero.1 h1
  have ha := arW_zero.1 h2
  have hg := mapF_good w2 ha
  rw [h5]
  have hw := wr_of hg h4
  refine ⟨hw, ?_⟩
  have ha' := ha
  unfold ArOk at ha'
  rw [unA_of hw (spanB_iff.2 (by omega))]
  have he : joinL (unF (onAt (joinL (mapF l a))) a.fr (a.to - a.fr)) = l := by
    refine joinL_of (unF_good (joinL_can hg).good _ _) w2 fun k hk => ?_
    unfold unF
    by_cases h6 : within a.fr (a.to - a.fr) k = true
    · rw [if_pos h6]
      exact (onAt_no (hitB_no.1 h3 k hk (within_iff.1 h6))).symm
    · rw [if_neg h6, joinL_at hg hk]
      unfold mapF
      rw [if_neg (fun h7 => h6 (within_iff.2 (by have := inB_iff.1 h7; omega)))]
  rw [fewL_of (by rw [he]; exact w1), he]

/-- Unmapped in two parts. -/
theorem split_un {l : List Ar} {s n k : Int} (hk : 1 ≤ k) (hkn : k < n) (h : (unA l s n).2 = 0) (h' : (unA l s k).2 = 0) : unA (unA l s k).1 (s + k) (n - k) = unA l s n := by
  obtain ⟨h1, h2, h3, h4⟩ := unA_ok h
  obtain ⟨_, g2, g3, g4⟩ := unA_ok h'
  obtain ⟨w1, w2⟩ := wrL_zero.1 h1
  have hg := unF_good w2.good s k
  have h2' := spanB_iff.1 h2
  rw [unA_of h1 h2, g4, unA_of (wr_of hg g3) (spanB_iff.2 (by omega))]
  have he : joinL (unF (onAt (joinL (unF (onAt l) s k))) (s + k) (n - k)) = joinL (unF (onAt l) s n) := by
    refine joinL_congr (unF_good (joinL_can hg).good _ _) (unF_good w2.good _ _) fun j hj => ?_
    unfold unF
    by_cases h6 : within (s + k) (n - k) j = true
    · have := within_iff.1 h6
      rw [if_pos h6, if_pos (within_iff.2 (by omega))]
    · rw [if_neg h6]
      have h7 : ¬ (s + k ≤ (j : Int) ∧ (j : Int) < s + k + (n - k)) := fun h => h6 (within_iff.2 h)
      have := joinL_at hg hj
      unfold unF at this
      rw [this]
      by_cases h8 : within s k j = true
      · have := within_iff.1 h8
        rw [if_pos h8, if_pos (within_iff.2 (by omega))]
      · have h9 : ¬ (s ≤ (j : Int) ∧ (j : Int) < s + k) := fun h => h8 (within_iff.2 h)
        have hx : ¬ within s n j = true := fun h => by have := within_iff.1 h; omega
        rw [if_neg h8, if_neg hx]
  unfold fewL
  rw [he]
theorem gap_less {l : List Ar} {s n s' n' : Int} (h : gapB l s n = false) (h1 : s ≤ s') (h2 : s' + n' ≤ s + n) : gapB l s' n' = false := gapB_no.2 fun k hk h3 => gapB_no.1 h k hk (by omega)

theorem prF_is {f : Nat → On} {s n : Int} {r w : Bool} {k : Nat} : (prF f s n r w k).is = (f k).is := by
  unfold prF
  split <;> rfl
theorem pr_good {l : List Ar} {s n : Int} {r w : Bool} (hl : CanP none l) (h : gapB l s n = false) : Good (prF (onAt l) s n r w) := prF_good hl.good s n r w (gapB_no.1 h)
theorem gap_pr {l : List Ar} {s n s' n' : Int} {r w : Bool} (hl : CanP none l) (h : gapB l s n = false) : gapB (joinL (prF (onAt l) s n r w)) s' n' = gapB l s' n' := by
  have hg := pr_good (r := r) (w := w) hl h
  have : ∀ k, k < 64 → (onAt (joinL (prF (onAt l) s n r w)) k).is = (onAt l k).is := fun k hk => by rw [joinL_at hg hk, prF_is]
  cases hq : gapB l s' n' with
  | true =>
    obtain ⟨k, h1, h2, h3⟩ := gapB_iff.1 hq
    exact gapB_iff.2 ⟨k, h1, h2, by rw [this k h1]; exact h3⟩
  | false => exact gapB_no.2 fun k hk h2 => by rw [this k hk]; exact gapB_no.1 hq k hk h2

/-- Protected in two parts. -/
theorem split_pr {l : List Ar} {s n k : Int} {r w : Bool} (hk : 1 ≤ k) (hkn : k < n) (h : (prA l s n r w).2 = 0) (h' : (prA l s k r w).2 = 0) : prA (prA l s k r w).1 (s + k) (n - k) r w = prA l s n r w := by
  obtain ⟨h1, h2, h3, h4, h5⟩ := prA_ok h
  obtain ⟨_, g2, g3, g4, g5⟩ := prA_ok h'
  obtain ⟨w1, w2⟩ := wrL_zero.1 h1
  have hg := pr_good (r := r) (w := w) w2 g3
  have h2' := spanB_iff.1 h2
  have hgap : gapB (joinL (prF (onAt l) s k r w)) (s + k) (n - k) = false := by rw [gap_pr w2 g3]; exact gap_less h3 (by omega) (by omega)
  rw [prA_of h1 h2 h3, g5, prA_of (wr_of hg g4) (spanB_iff.2 (by omega)) hgap]
  have he : joinL (prF (onAt (joinL (prF (onAt l) s k r w))) (s + k) (n - k) r w) = joinL (prF (onAt l) s n r w) := by
    refine joinL_congr (pr_good (joinL_can hg) hgap) (pr_good w2 h3) fun j hj => ?_
    have hj' := joinL_at hg hj
    unfold prF at hj' ⊢
    rw [hj']
    by_cases h6 : within (s + k) (n - k) j = true
    · have := within_iff.1 h6
      have hx : ¬ within s k j = true := fun h => by have := within_iff.1 h; omega
      rw [if_pos h6, if_neg hx, if_pos (within_iff.2 (by omega))]
    · rw [if_neg h6]
      have h7 : ¬ (s + k ≤ (j : Int) ∧ (j : Int) < s + k + (n - k)) := fun h => h6 (within_iff.2 h)
      by_cases h8 : within s k j = true
      · have := within_iff.1 h8
        rw [if_pos h8, if_pos (within_iff.2 (by omega))]
      · have h9 : ¬ (s ≤ (j : Int) ∧ (j : Int) < s + k) := fun h => h8 (within_iff.2 h)
        have hx : ¬ within s n j = true := fun h => by have := within_iff.1 h; omega
        rw [if_neg h8, if_neg hx]
  unfold fewL
  rw [he]

/-- Protected twice. -/
theorem twice_pr {l : List Ar} {s n : Int} {r w r' w' : Bool} (h : (prA l s n r w).2 = 0) : (wrL (prA l s n r w).1).1 = 0 ∧ prA (prA l s n r w).1 s n r' w' = prA l s n r' w' := by
  obtain ⟨h1, h2, h3, h4, h5⟩ := prA_ok h
  obtain ⟨w1, w2⟩ := wrL_zero.1 h1
  have hg := pr_good (r := r) (w := w) w2 h3
  have hgap : gapB (joinL (prF (onAt l) s n r w)) s n = false := by rw [gap_pr w2 h3]; exact h3
  rw [h5]
  refine ⟨wr_of hg h4, ?_⟩
  rw [prA_of h1 h2 h3, prA_of (wr_of hg h4) h2 hgap]
  have he : joinL (prF (onAt (joinL (prF (onAt l) s n r w))) s n r' w') = joinL (prF (onAt l) s n r' w') := by
    refine joinL_congr (pr_good (joinL_can hg) hgap) (pr_good w2 h3) fun j hj => ?_
    have hj' := joinL_at hg hj
    unfold prF at hj' ⊢
    rw [hj']
    by_cases h6 : within s n j = true
    · rw [if_pos h6, if_pos h6, if_pos h6]
    · rw [if_neg h6, if_neg h6, if_neg h6]
  unfold fewL
  rw [he]

/-- Two areas side by side: one, if the second one goes on. -/
theorem two_go {a b : Ar} (hb : ArOk b) (ha : ArOk a) (hf : b.to ≤ a.fr) : decide ((joinL (onAt [b, a])).length < 2) = goB a b := by
  have ha' := ha
  have hb' := hb
  unfold ArOk at ha' hb'
  have hgood : Good (onAt [b, a]) := fun k _ => ⟨onAt_no, fun h1 => by
    obtain ⟨i, c, h2, h3, h4⟩ := onAt_some h1
    rw [h4]
    have : c = b ∨ c = a := by simpa using List.mem_of_getElem? h2
    rcases this with e | e <;> subst e
    · exact oneOf_ok hb h3
    · exact oneOf_ok ha h3⟩
  cases hg : goB a b with
  | true =>
    obtain ⟨g1, g2, g3, g4, g5, g6⟩ := goB_iff.1 hg
    have hc : CanP none [{ b with to := a.to }] := by
      refine ⟨?_, fun x hx => (by cases hx), trivial⟩
      unfold ArOk
      simp only
      refine ⟨by omega, by omega, by omega, by omega, by omega, by omega, hb'.2.2.2.2.2.2.1, fun h => ?_⟩
      rw [if_pos h] at g6
      omega
    rw [joinL_of hgood hc fun k hk => ?_]
    · rfl
    · have e3 : oneOf { b with to := a.to } k = oneOf b k := rfl
      simp only [onAt]
      by_cases h1 : inB b k = true
      · have := inB_iff.1 h1
        rw [if_pos h1, if_pos (inB_iff.2 (by simp only; omega)), e3]
      · have h1' : ¬ (b.fr ≤ (k : Int) ∧ (k : Int) < b.to) := fun h => h1 (inB_iff.2 h)
        rw [if_neg h1]
        by_cases h2 : inB a k = true
        · have h2' := inB_iff.1 h2
          rw [if_pos h2, if_pos (inB_iff.2 (by simp only; omega)), e3]
          unfold oneOf
          rw [g2, g3, g4, g5, g6]
          by_cases h7 : 0 ≤ b.file
          · rw [if_pos h7, if_pos h7, if_pos h7]
            congr 1
            omega
          · rw [if_neg h7, if_neg h7]
        · have h2' : ¬ (a.fr ≤ (k : Int) ∧ (k : Int) < a.to) := fun h => h2 (inB_iff.2 h)
          rw [if_neg h2, if_neg (fun h => by have := inB_iff.1 h; simp only at this; omega)]
  | false =>
    have hc : CanP none [b, a] := ⟨hb, fun x hx => (by cases hx), ha, fun x hx => (by cases hx; exact ⟨hf, hg⟩), trivial⟩
    rw [joinL_of hgood hc fun _ _ => rfl]
    rfl

/-- The first page from which n pages are free. -/
def freeB (l : List Ar) (k : Nat) (n : Int) : Bool := !hitB l k n
def roomL (l : List Ar) (n : Int) : Int := if n < 1 ∨ 64 < n then -1 else match (List.range (65 - n.toNat)).find? fun k => freeB l k n with | some k => k | none => -1
theorem roomL_hit {l : List Ar} {n : Int} {k : Nat} (h1 : 1 ≤ n) (hk : (k : Int) ≤ 64 - n) (hf : hitB l k n = false) (hb : ∀ j : Nat, j < k → hitB l j n = true) : roomL l n = k := by
  unfold roomL
  rw [if_neg (by omega)]
  have : (List.range (65 - n.toNat)).find? (fun k => freeB l k n) = some k := by
    rw [List.find?_range_eq_some]
    refine ⟨by simp [freeB, hf], by simp; omega, fun j hj => by simp [freeB, hb j hj]⟩
  rw [this]
theorem roomL_miss {l : List Ar} {n : Int} (hb : 1 ≤ n → ∀ j : Nat, (j : Int) ≤ 64 - n → hitB l j n = true) : roomL l n = -1 := by
  unfold roomL
  by_cases h : n < 1 ∨ 64 < n
  · rw [if_pos h]
  · rw [if_neg h]
    have : (List.range (65 - n.toNat)).find? (fun k => freeB l k n) = none := by
      rw [List.find?_eq_none]
      intro x hx
      rw [List.mem_range] at hx
      simp [freeB, hb (by omega) x (by omega)]
    rw [this]
theorem roomL_cases (l : List Ar) (n : Int) : (∃ k : Nat, roomL l n = k ∧ 1 ≤ n ∧ (k : Int) ≤ 64 - n ∧ hitB l k n = false ∧ ∀ j : Nat, j < k → hitB l j n = true) ∨ (roomL l n = -1 ∧ (1 ≤ n → ∀ j : Nat, (j : Int) ≤ 64 - n → hitB l j n = true)) := by
  unfold roomL
  by_cases h : n < 1 ∨ 64 < n
  · rw [if_pos h]
    exact .inr ⟨rfl, fun h1 j hj => by omega⟩
  · rw [if_neg h]
    cases hq : (List.range (65 - n.toNat)).find? (fun k => freeB l k n) with
    | none =>
      rw [List.find?_eq_none] at hq
      refine .inr ⟨rfl, fun h1 j hj => ?_⟩
      have := hq j (by rw [List.mem_range]; omega)
      simpa [freeB] using this
    | some k =>
      rw [List.find?_range_eq_some] at hq
      obtain ⟨q1, q2, q3⟩ := hq
      rw [List.mem_range] at q2
      exact .inl ⟨k, rfl, by omega, by omega, by simpa [freeB] using q1, fun j hj => by simpa [freeB] using q3 j hj⟩

/-- Where nothing is in the way one may map. -/
theorem room_map {l : List Ar} {n : Int} {k : Nat} (hl : (wrL l).1 = 0) (h1 : 1 ≤ n) (hk : (k : Int) ≤ 64 - n) : ((mapA l ⟨k, (k : Int) + n, false, false, false, -1, 0⟩).2 = 0 ∨ (mapA l ⟨k, (k : Int) + n, false, false, false, -1, 0⟩).2 = 4) ↔ hitB l k n = false := by
  unfold mapA
  have ha : arW ⟨k, (k : Int) + n, false, false, false, -1, 0⟩ = 0 := arW_zero.2 (by
    unfold ArOk
    simp only
    exact ⟨by omega, by omega, by omega, by omega, by omega, by omega, fun _ => by simp, fun h => by omega⟩)
  rw [if_neg (fun h => h hl), if_neg (fun h => h ha)]
  simp only
  rw [show (k : Int) + n - k = n by omega]
  cases hh : hitB l k n with
  | true => simp
  | false =>
    simp only [Bool.false_eq_true, if_false, iff_true]
    unfold fewL
    split
    · exact .inr rfl
    · exact .inl rfl

end Go.Proofs.Ytlkgmjdhggfimad
